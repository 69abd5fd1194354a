package tuple

import (
	"bytes"
	"fmt"
	"hash/fnv"
	"math"
	"math/rand"
	"slices"
	"testing"

	"casemate/api"
	"casemate/icmp"
	"casemate/tcp"
	"casemate/udp"
)

// The addresses between which the packets of most tests go.
const (
	here  = 0x0a000001
	there = 0xc0a80207
)

// sample is a tuple of which no two bytes are alike.
func sample() api.Tuple {
	return api.Tuple{Proto: 0x12, Src: 0x3456789a, Sport: 0xbcde, Dst: 0xf0112233, Dport: 0x4455}
}

// with is the sample, changed.
func with(change func(t *api.Tuple)) api.Tuple {
	t := sample()
	change(&t)
	return t
}

// packet is one that is no piece, between these addresses, with something in each other part of its head.
func packet(proto int, src, dst uint32, body []byte) api.IP {
	return api.IP{TOS: 3, ID: 0x1234, DF: true, TTL: 64, Proto: proto, Src: src, Dst: dst, Opts: []byte{1, 1, 1, 0}, Body: body}
}

// segment is a packet of TCP.
func segment(t *testing.T, src, dst uint32, s api.TCP) api.IP {
	t.Helper()
	b, e := tcp.Put(src, dst, s)
	if e != api.OK {
		t.Fatalf("%+v: %d", s, e)
	}
	return packet(api.ProtoTCP, src, dst, b)
}

// datagram is a packet of UDP.
func datagram(t *testing.T, src, dst uint32, u api.UDP) api.IP {
	t.Helper()
	b, e := udp.Put(src, dst, u)
	if e != api.OK {
		t.Fatalf("%+v: %d", u, e)
	}
	return packet(api.ProtoUDP, src, dst, b)
}

// message is a packet of ICMP.
func message(t *testing.T, src, dst uint32, m api.ICMP) api.IP {
	t.Helper()
	b, e := icmp.Put(m)
	if e != api.OK {
		t.Fatalf("%+v: %d", m, e)
	}
	return packet(api.ProtoICMP, src, dst, b)
}

// segmentOf and the like are packets that have a tuple.
func segmentOf(t *testing.T) api.IP {
	return segment(t, here, there, api.TCP{Sport: 5000, Dport: 80, Seq: 7, Flags: api.Syn})
}

func datagramOf(t *testing.T) api.IP {
	return datagram(t, here, there, api.UDP{Sport: 5000, Dport: 53, Body: []byte{1, 2, 3}})
}

func messageOf(t *testing.T) api.IP {
	return message(t, here, there, api.ICMP{Type: 8, Rest: 7<<16 | 1, Body: []byte{1, 2, 3, 4}})
}

// hasTuple fails unless a packet has this tuple.
func hasTuple(t *testing.T, p api.IP, want api.Tuple) {
	t.Helper()
	if x, e := Of(p); e != api.OK || x != want {
		t.Errorf("%+v: %+v, %d instead of %+v", p, x, e, want)
	}
}

// hasNone fails unless a packet has this error, and beside it nothing.
func hasNone(t *testing.T, p api.IP, want api.Errno) {
	t.Helper()
	if x, e := Of(p); e != want || x != (api.Tuple{}) {
		t.Errorf("%d, %d, %t, % x: %+v, %d instead of %d", p.Proto, p.Off, p.MF, p.Body[:min(len(p.Body), 60)], x, e, want)
	}
}

// slowly writes a tuple out bit by bit, apart from told.
func slowly(t api.Tuple) string {
	var b []byte
	for _, part := range []struct{ n, bits int }{{t.Proto, 8}, {int(t.Src), 32}, {t.Sport, 16}, {int(t.Dst), 32}, {t.Dport, 16}} {
		for at := part.bits - 8; at >= 0; at -= 8 {
			c := 0
			for i := range 8 {
				c |= part.n >> at & (1 << i)
			}
			b = append(b, byte(c))
		}
	}
	return string(b)
}

// numbers are those at whose edges a protocol or a port is right, and some by the way, far and near.
func numbers() []int {
	return []int{
		0, 1, 2, 6, 17, 127, 128, 200, 254, 255, 256, 257, 262, 511, 512, 32767, 32768, 65279, 65280, 65534, 65535, 65536, 65537, 65792, 1 << 17,
		-1, -2, -128, -255, -256, -257, -65535, -65536, -65537, 1<<32 + 6, math.MaxInt32, math.MinInt32, math.MaxInt, math.MinInt,
	}
}

// someTuples have parts at their edges, and parts that are drawn; those that aren't right among them.
func someTuples() []api.Tuple {
	list := []api.Tuple{
		{}, sample(), {Proto: 255, Src: math.MaxUint32, Sport: 65535, Dst: math.MaxUint32, Dport: 65535},
		{Proto: 6, Src: here, Sport: 5000, Dst: there, Dport: 80}, {Proto: 17, Src: there, Sport: 53, Dst: here, Dport: 5000}, {Proto: 1, Src: 1, Sport: 7, Dst: 2, Dport: 7},
	}
	for _, n := range numbers() {
		list = append(list, api.Tuple{Proto: n}, api.Tuple{Sport: n}, api.Tuple{Dport: n}, api.Tuple{Proto: n, Sport: n, Dport: n})
	}
	for bit := range 32 {
		list = append(list, api.Tuple{Src: 1 << bit}, api.Tuple{Dst: 1 << bit}, with(func(t *api.Tuple) { t.Src ^= 1 << bit }), with(func(t *api.Tuple) { t.Dst ^= 1 << bit }))
	}
	chance := rand.New(rand.NewSource(9))
	for range 100 {
		list = append(list, drawn(chance))
	}
	return list
}

// drawn is a right tuple of parts that are drawn.
func drawn(chance *rand.Rand) api.Tuple {
	return api.Tuple{Proto: chance.Intn(256), Src: chance.Uint32(), Sport: chance.Intn(65536), Dst: chance.Uint32(), Dport: chance.Intn(65536)}
}

// P9.1: the chapter's example.
func TestExample(t *testing.T) {
	hasTuple(t, message(t, 1, 2, api.ICMP{Type: 8, Rest: 7 << 16}), api.Tuple{Proto: 1, Src: 1, Sport: 7, Dst: 2, Dport: 7})
}

// P9.1: each part of a tuple is told, of each protocol, at its edges.
func TestOf(t *testing.T) {
	addrs := []uint32{0, 1, 255, 256, 1 << 16, here, there, 1 << 31, math.MaxUint32}
	ports := []int{0, 1, 255, 256, 5000, 32768, 65280, 65535}
	for _, src := range addrs {
		for _, dst := range addrs {
			for _, a := range ports {
				for _, z := range ports {
					hasTuple(t, segment(t, src, dst, api.TCP{Sport: a, Dport: z}), api.Tuple{Proto: 6, Src: src, Sport: a, Dst: dst, Dport: z})
					hasTuple(t, datagram(t, src, dst, api.UDP{Sport: a, Dport: z}), api.Tuple{Proto: 17, Src: src, Sport: a, Dst: dst, Dport: z})
				}
				for _, kind := range []int{0, 8, 13, 14} {
					hasTuple(t, message(t, src, dst, api.ICMP{Type: kind, Rest: uint32(a) << 16}), api.Tuple{Proto: 1, Src: src, Sport: a, Dst: dst, Dport: a})
				}
			}
		}
	}
}

// P9.1: what else stands in a packet doesn't count, right or not.
func TestOfAnyHead(t *testing.T) {
	for i, change := range []func(p *api.IP){
		func(p *api.IP) {}, func(p *api.IP) { p.TOS = 0 }, func(p *api.IP) { p.TOS = -1 }, func(p *api.IP) { p.ID = 0 }, func(p *api.IP) { p.ID = 1 << 20 },
		func(p *api.IP) { p.DF = false }, func(p *api.IP) { p.TTL = 0 }, func(p *api.IP) { p.TTL = math.MinInt }, func(p *api.IP) { p.Opts = nil },
		func(p *api.IP) { p.Opts = make([]byte, 3) }, func(p *api.IP) { p.Opts = make([]byte, 400) },
	} {
		for _, p := range []api.IP{segmentOf(t), datagramOf(t), messageOf(t)} {
			want, e := Of(p)
			if e != api.OK || want == (api.Tuple{}) {
				t.Fatalf("%d: %+v, %d", i, want, e)
			}
			change(&p)
			hasTuple(t, p, want)
		}
	}
}

// P9.1: what else stands in a body doesn't count either, if it is right.
func TestOfAnyBody(t *testing.T) {
	opts := []api.Opt{{Kind: api.OptMss, Data: []byte{5, 180}}, {Kind: 200, Data: make([]byte, 9)}}
	for _, s := range []api.TCP{
		{}, {Seq: math.MaxUint32, Ack: 1 << 31}, {Flags: 255}, {Flags: api.Rst}, {Win: 65535, Urg: 65535}, {Opts: opts}, {Body: []byte{1, 2, 3}}, {Opts: opts, Body: make([]byte, 1<<15)},
	} {
		s.Sport, s.Dport = 1025, 443
		hasTuple(t, segment(t, here, there, s), api.Tuple{Proto: 6, Src: here, Sport: 1025, Dst: there, Dport: 443})
	}
	for _, u := range []api.UDP{{}, {NoSum: true}, {Body: []byte{1}}, {NoSum: true, Body: []byte{1, 2, 3}}, {Body: make([]byte, 65527)}} {
		u.Sport, u.Dport = 1025, 53
		want := api.Tuple{Proto: 17, Src: here, Sport: 1025, Dst: there, Dport: 53}
		p := datagram(t, here, there, u)
		hasTuple(t, p, want)
		// What stands behind a datagram doesn't count.
		p.Body = append(p.Body, 1, 2, 3)
		hasTuple(t, p, want)
		p.Body = append(p.Body, make([]byte, 70000)...)
		hasTuple(t, p, want)
	}
	for _, m := range []api.ICMP{{}, {Code: 255}, {Code: 1}, {Rest: 1}, {Rest: 65535}, {Body: []byte{8}}, {Body: []byte{3, 1, 2}}, {Body: make([]byte, 65527)}} {
		for _, kind := range []int{0, 8, 13, 14} {
			m.Type, m.Rest = kind, m.Rest&65535|0xabcd<<16
			hasTuple(t, message(t, here, there, m), api.Tuple{Proto: 1, Src: here, Sport: 0xabcd, Dst: there, Dport: 0xabcd})
		}
	}
}

// P9.1: a piece, ahead of all else that may be wrong.
func TestOfPieces(t *testing.T) {
	for _, piece := range []func(p *api.IP){
		func(p *api.IP) { p.MF = true }, func(p *api.IP) { p.Off = 8 }, func(p *api.IP) { p.Off = 65528 }, func(p *api.IP) { p.MF, p.Off = true, 16 },
		func(p *api.IP) { p.Off = 1 }, func(p *api.IP) { p.Off = -8 }, func(p *api.IP) { p.Off = math.MaxInt }, func(p *api.IP) { p.Off = math.MinInt },
	} {
		for _, p := range []api.IP{
			segmentOf(t), datagramOf(t), messageOf(t),
			packet(api.ProtoTCP, here, there, nil), packet(api.ProtoUDP, here, there, nil), packet(api.ProtoICMP, here, there, nil),
			packet(api.ProtoTCP, here, there, make([]byte, 70000)), packet(47, here, there, nil), packet(-1, here, there, []byte{1}),
			message(t, here, there, api.ICMP{Type: 3}),
		} {
			piece(&p)
			hasNone(t, p, api.ErrFrag)
		}
	}
}

// spoilt is a copy of bytes with one of them changed.
func spoilt(b []byte, at int, c byte) []byte {
	b = bytes.Clone(b)
	b[at] ^= c
	return b
}

// P9.1: a body that is no segment.
func TestOfNoSegment(t *testing.T) {
	p := segmentOf(t)
	good := p.Body
	for _, c := range []struct {
		b    []byte
		want api.Errno
	}{
		{nil, api.ErrShort}, {good[:0], api.ErrShort}, {good[:19], api.ErrShort}, {make([]byte, 65536), api.ErrLen}, {make([]byte, 70000), api.ErrLen},
		{make([]byte, 20), api.ErrHead}, {spoilt(good, 12, 0x50^0x40), api.ErrHead}, {spoilt(good, 12, 0x50^0x60), api.ErrHead},
		{spoilt(good, 0, 1), api.ErrSum}, {spoilt(good, 3, 0x80), api.ErrSum}, {spoilt(good, 19, 1), api.ErrSum}, {append(bytes.Clone(good), 1), api.ErrSum},
	} {
		p.Body = c.b
		hasNone(t, p, c.want)
	}
	p = segment(t, here, there, api.TCP{Opts: []api.Opt{{Kind: 100, Data: []byte{1, 2}}}})
	// The option's kind is changed to that of another length, and the sum with it.
	p.Body[20] = api.OptScale
	p.Body[16] += 100 - api.OptScale
	hasNone(t, p, api.ErrOpt)
}

// P9.1: a body that is no datagram.
func TestOfNoDatagram(t *testing.T) {
	p := datagramOf(t)
	good := p.Body
	for _, c := range []struct {
		b    []byte
		want api.Errno
	}{
		{nil, api.ErrShort}, {good[:7], api.ErrShort}, {good[:10], api.ErrLen}, {spoilt(good, 5, 11^7), api.ErrLen}, {spoilt(good, 5, 11^12), api.ErrLen}, {make([]byte, 70000), api.ErrLen},
		{spoilt(good, 0, 1), api.ErrSum}, {spoilt(good, 3, 0x80), api.ErrSum}, {spoilt(good, 10, 1), api.ErrSum}, {spoilt(good, 7, 1), api.ErrSum},
	} {
		p.Body = c.b
		hasNone(t, p, c.want)
	}
}

// P9.1: a body that is no message, also where its type is one that neither asks nor answers.
func TestOfNoMessage(t *testing.T) {
	for kind := range 256 {
		p := message(t, here, there, api.ICMP{Type: kind, Rest: 7<<16 | 1, Body: []byte{1, 2, 3, 4}})
		good := p.Body
		for _, c := range []struct {
			b    []byte
			want api.Errno
		}{
			{nil, api.ErrShort}, {good[:1], api.ErrShort}, {good[:7], api.ErrShort}, {append(bytes.Clone(good), make([]byte, 65524)...), api.ErrLen},
			{spoilt(good, 1, 1), api.ErrSum}, {spoilt(good, 4, 1), api.ErrSum}, {spoilt(good, 11, 0x80), api.ErrSum}, {good[:8], api.ErrSum},
		} {
			p.Body = c.b
			hasNone(t, p, c.want)
		}
	}
}

// P9.1: the sum of a segment and of a datagram is that of the packet's addresses, too; that of a message is not.
func TestOfOtherAddresses(t *testing.T) {
	for i, p := range []api.IP{segmentOf(t), datagramOf(t), messageOf(t)} {
		for bit := range 32 {
			x, y := p, p
			x.Src ^= 1 << bit
			y.Dst ^= 1 << bit
			for _, q := range []api.IP{x, y} {
				if i < 2 {
					hasNone(t, q, api.ErrSum)
				} else {
					hasTuple(t, q, api.Tuple{Proto: 1, Src: q.Src, Sport: 7, Dst: q.Dst, Dport: 7})
				}
			}
		}
		// Both addresses add up alike, whichever is the first.
		x, e := Of(p)
		p.Src, p.Dst = p.Dst, p.Src
		x.Src, x.Dst = x.Dst, x.Src
		hasTuple(t, p, x)
		if e != api.OK {
			t.Error(i, e)
		}
	}
}

// P9.1: protocols that have no tuple, whatever their body, also those that are one of the three modulo 2^8.
func TestOfOtherProtocols(t *testing.T) {
	protos := numbers()
	for proto := -3; proto < 600; proto++ {
		protos = append(protos, proto)
	}
	for _, proto := range protos {
		if proto == api.ProtoICMP || proto == api.ProtoTCP || proto == api.ProtoUDP {
			continue
		}
		for _, body := range [][]byte{nil, {1}, make([]byte, 20), segmentOf(t).Body, datagramOf(t).Body, messageOf(t).Body, make([]byte, 70000)} {
			hasNone(t, packet(proto, here, there, body), api.ErrNone)
		}
	}
}

// P9.1: of all types of messages four have a tuple; of errors not even those that are about a packet that has one.
func TestOfTypes(t *testing.T) {
	about := append([]byte{0x45, 0, 0, 40, 0, 0, 0, 0, 64, 6, 0x66, 0x26, 10, 0, 0, 1, 8, 8, 8, 8}, segmentOf(t).Body[:8]...)
	for kind := range 256 {
		for _, body := range [][]byte{nil, {1, 2, 3}, about} {
			p := message(t, here, there, api.ICMP{Type: kind, Code: kind % 7, Rest: 0x12345678, Body: body})
			if kind == 0 || kind == 8 || kind == 13 || kind == 14 {
				hasTuple(t, p, api.Tuple{Proto: 1, Src: here, Sport: 0x1234, Dst: there, Dport: 0x1234})
			} else {
				hasNone(t, p, api.ErrNone)
			}
		}
	}
}

// P9.1: a body is read as its packet's protocol has it, not as what it may be besides.
func TestOfWrongProtocol(t *testing.T) {
	for _, c := range []struct {
		p     api.IP
		proto int
		want  api.Errno
	}{
		{segmentOf(t), api.ProtoUDP, api.ErrLen}, {segmentOf(t), api.ProtoICMP, api.ErrSum}, {datagramOf(t), api.ProtoTCP, api.ErrShort},
		{datagramOf(t), api.ProtoICMP, api.ErrSum}, {messageOf(t), api.ProtoTCP, api.ErrShort}, {messageOf(t), api.ProtoUDP, api.ErrLen},
	} {
		c.p.Proto = c.proto
		hasNone(t, c.p, c.want)
	}
}

// P9.1: what is handed in stays, its spare room too.
func TestOfLeaves(t *testing.T) {
	for i, p := range []api.IP{segmentOf(t), datagramOf(t), messageOf(t), packet(6, here, there, []byte{1, 2}), packet(47, 1, 2, []byte{3}), {Proto: 17, MF: true, Body: []byte{4}}} {
		p.Opts, p.Body = append(bytes.Clone(p.Opts), 0x77, 0x77)[:len(p.Opts)], append(bytes.Clone(p.Body), 0x77, 0x77, 0x77)[:len(p.Body)]
		before := fmt.Sprint(p, p.Opts[:cap(p.Opts)], p.Body[:cap(p.Body)])
		x, e := Of(p)
		if after := fmt.Sprint(p, p.Opts[:cap(p.Opts)], p.Body[:cap(p.Body)]); after != before {
			t.Errorf("%d: %s is changed to %s", i, before, after)
		}
		if y, f := Of(p); x != y || e != f {
			t.Errorf("%d: %+v, %d, then %+v, %d", i, x, e, y, f)
		}
	}
}

// P9.1: both sides are changed, and nothing else.
func TestTurn(t *testing.T) {
	for _, c := range []struct{ t, want api.Tuple }{
		{api.Tuple{}, api.Tuple{}},
		{api.Tuple{Proto: 6, Src: 1, Sport: 10, Dst: 2, Dport: 80}, api.Tuple{Proto: 6, Src: 2, Sport: 80, Dst: 1, Dport: 10}},
		{api.Tuple{Proto: 17, Src: 1}, api.Tuple{Proto: 17, Dst: 1}},
		{api.Tuple{Sport: 1}, api.Tuple{Dport: 1}},
		{api.Tuple{Src: 5, Sport: 7, Dst: 5, Dport: 7}, api.Tuple{Src: 5, Sport: 7, Dst: 5, Dport: 7}},
		{sample(), api.Tuple{Proto: 0x12, Src: 0xf0112233, Sport: 0x4455, Dst: 0x3456789a, Dport: 0xbcde}},
		// The numbers of one that isn't right stay, too.
		{api.Tuple{Proto: 256, Sport: -1, Dport: 65536}, api.Tuple{Proto: 256, Sport: 65536, Dport: -1}},
		{api.Tuple{Proto: math.MinInt, Sport: math.MaxInt, Dport: math.MinInt}, api.Tuple{Proto: math.MinInt, Sport: math.MinInt, Dport: math.MaxInt}},
	} {
		if x := Turn(c.t); x != c.want {
			t.Errorf("%+v is turned to %+v", c.t, x)
		}
	}
}

// P9.1
func TestRight(t *testing.T) {
	for _, n := range numbers() {
		for _, c := range []struct {
			t    api.Tuple
			most int
		}{
			{api.Tuple{Proto: n}, 255}, {api.Tuple{Sport: n}, 65535}, {api.Tuple{Dport: n}, 65535}, {api.Tuple{Proto: n, Sport: n, Dport: n}, 255},
			{with(func(t *api.Tuple) { t.Proto = n }), 255}, {with(func(t *api.Tuple) { t.Sport = n }), 65535}, {with(func(t *api.Tuple) { t.Dport = n }), 65535},
		} {
			if want := n >= 0 && n <= c.most; Right(c.t) != want {
				t.Errorf("%+v: %t", c.t, !want)
			}
		}
	}
	for _, a := range []uint32{0, 1, 1 << 31, math.MaxUint32} {
		for _, z := range []uint32{0, 1, 1 << 31, math.MaxUint32} {
			if !Right(api.Tuple{Proto: 255, Src: a, Sport: 65535, Dst: z, Dport: 65535}) || Right(api.Tuple{Proto: 256, Src: a, Dst: z}) {
				t.Error(a, z)
			}
		}
	}
}

// P9.1: a part counts ahead of those behind it, and the higher byte ahead of the lower one.
func TestLess(t *testing.T) {
	for i, c := range []struct{ a, b api.Tuple }{
		{api.Tuple{}, api.Tuple{Dport: 1}}, {api.Tuple{Dport: 255}, api.Tuple{Dport: 256}}, {api.Tuple{Dport: 1}, api.Tuple{Dport: 65535}},
		{api.Tuple{Dport: 65535}, api.Tuple{Dst: 1}}, {api.Tuple{Dst: 255}, api.Tuple{Dst: 256}}, {api.Tuple{Dst: 0x00ff00ff}, api.Tuple{Dst: 0x01000000}}, {api.Tuple{Dst: 1<<31 - 1}, api.Tuple{Dst: 1 << 31}},
		{api.Tuple{Dst: math.MaxUint32, Dport: 65535}, api.Tuple{Sport: 1}}, {api.Tuple{Sport: 255}, api.Tuple{Sport: 256}}, {api.Tuple{Sport: 32767}, api.Tuple{Sport: 32768}},
		{api.Tuple{Sport: 65535, Dst: math.MaxUint32, Dport: 65535}, api.Tuple{Src: 1}}, {api.Tuple{Src: 255}, api.Tuple{Src: 256}}, {api.Tuple{Src: 1<<31 - 1}, api.Tuple{Src: 1 << 31}},
		{api.Tuple{Src: math.MaxUint32, Sport: 65535, Dst: math.MaxUint32, Dport: 65535}, api.Tuple{Proto: 1}}, {api.Tuple{Proto: 127}, api.Tuple{Proto: 128}}, {api.Tuple{Proto: 6, Src: 9}, api.Tuple{Proto: 17, Src: 2}},
		// Of those that aren't right the remainders stand so.
		{api.Tuple{Proto: 256}, api.Tuple{Proto: 1}}, {api.Tuple{Proto: 1}, api.Tuple{Proto: -1}}, {api.Tuple{Sport: 65536}, api.Tuple{Sport: 1}}, {api.Tuple{Sport: 65534}, api.Tuple{Sport: -1}},
		{api.Tuple{Dport: 1<<32 + 1}, api.Tuple{Dport: 2}}, {api.Tuple{Dport: -65536}, api.Tuple{Dport: 1}}, {api.Tuple{Dport: math.MinInt}, api.Tuple{Dport: math.MaxInt}},
	} {
		if !Less(c.a, c.b) || Less(c.b, c.a) || Less(c.a, c.a) || Less(c.b, c.b) {
			t.Errorf("%d: %+v, %+v: %t, %t", i, c.a, c.b, Less(c.a, c.b), Less(c.b, c.a))
		}
	}
}

// P9.1: any two stand as their bytes do.
func TestLessSlowly(t *testing.T) {
	list := someTuples()
	for _, a := range list {
		for _, b := range list {
			if want := slowly(a) < slowly(b); Less(a, b) != want {
				t.Errorf("%+v, %+v: %t", a, b, !want)
			}
		}
	}
}

// P9.2: hashes that were worked out elsewhere.
func TestHash(t *testing.T) {
	low := api.Tuple{Proto: 6, Src: 0x0a000001, Sport: 5000, Dst: 0x08080808, Dport: 80}
	top := api.Tuple{Proto: 255, Src: math.MaxUint32, Sport: 65535, Dst: math.MaxUint32, Dport: 65535}
	for _, c := range []struct {
		t    api.Tuple
		seed uint32
		want uint32
	}{
		{api.Tuple{}, 0, 0xda0f62ef}, {api.Tuple{}, 1, 0xa2fac5cc}, {api.Tuple{}, math.MaxUint32, 0xeedbffee}, {api.Tuple{}, 2166136261, 0},
		{api.Tuple{Proto: 1, Src: 1, Sport: 7, Dst: 2, Dport: 7}, 0, 0xb076143d}, {api.Tuple{Proto: 1, Src: 1, Sport: 7, Dst: 2, Dport: 7}, 7, 0x5e6ada38},
		{low, 0, 0x0eb7707b}, {Turn(low), 0, 0x105284eb}, {low, 0xdeadbeef, 0x13d1477a}, {top, 0, 0x6a9a4002},
	} {
		if h := Hash(c.t, c.seed); h != c.want {
			t.Errorf("%+v, %x: %x instead of %x", c.t, c.seed, h, c.want)
		}
	}
}

// hashSlowly works a hash out by numbers that don't go round.
func hashSlowly(t api.Tuple, seed uint32) uint32 {
	h := uint64(2166136261 ^ seed)
	for _, c := range []byte(slowly(t)) {
		h = (h ^ uint64(c)) * 16777619 % (1 << 32)
	}
	return uint32(h)
}

// P9.2: with any seed, also of tuples that aren't right; with the seed 0 it is the library's.
func TestHashSlowly(t *testing.T) {
	for _, x := range someTuples() {
		for _, seed := range []uint32{0, 1, 2, 255, 256, 1 << 16, 1 << 31, 2166136261, 0x5bd1e995, math.MaxUint32} {
			if h := Hash(x, seed); h != hashSlowly(x, seed) {
				t.Errorf("%+v, %x: %x", x, seed, h)
			}
		}
		f := fnv.New32a()
		f.Write([]byte(slowly(x)))
		if h := Hash(x, 0); h != f.Sum32() {
			t.Errorf("%+v: %x instead of %x", x, h, f.Sum32())
		}
	}
}

// P9.2: each bit of a tuple, and of a seed, makes another hash.
func TestHashOfEachBit(t *testing.T) {
	for _, x := range []api.Tuple{{}, sample()} {
		for bit := range 32 {
			others := []api.Tuple{x, x}
			others[0].Src ^= 1 << bit
			others[1].Dst ^= 1 << bit
			if bit < 16 {
				others = append(others, x, x)
				others[2].Sport ^= 1 << bit
				others[3].Dport ^= 1 << bit
			}
			if bit < 8 {
				others = append(others, x)
				others[4].Proto ^= 1 << bit
			}
			for _, y := range others {
				if Hash(x, 5) == Hash(y, 5) {
					t.Errorf("%+v and %+v", x, y)
				}
			}
			if Hash(x, 5) == Hash(x, 5^1<<bit) {
				t.Errorf("%+v, %d", x, bit)
			}
		}
	}
}

// P9.1 and P9.2: of numbers that aren't right the remainder counts, and of those that are each bit.
func TestRemainders(t *testing.T) {
	add := []int{0, 1 << 16, -1 << 16, 5 << 16, -9 << 16, 1 << 32, -1 << 32, 1 << 62, math.MinInt}
	for _, few := range add {
		for _, more := range add {
			x := with(func(t *api.Tuple) { t.Proto, t.Sport, t.Dport = t.Proto+few>>8, t.Sport+more, t.Dport+few })
			if Right(x) != (few == 0 && more == 0) || Less(x, sample()) || Less(sample(), x) {
				t.Errorf("%+v doesn't stand as %+v", x, sample())
			}
			if Hash(x, 3) != Hash(sample(), 3) {
				t.Errorf("%+v: %x", x, Hash(x, 3))
			}
		}
	}
}

// P9.3: turned twice a tuple is as it was, right or not; turned once it is as right as it was.
func TestTurnedTwice(t *testing.T) {
	for _, x := range someTuples() {
		if Turn(Turn(x)) != x || Right(Turn(x)) != Right(x) {
			t.Errorf("%+v: %+v, %+v", x, Turn(x), Turn(Turn(x)))
		}
		same := x.Src == x.Dst && x.Sport == x.Dport
		if (Turn(x) == x) != same {
			t.Errorf("%+v: %+v", x, Turn(x))
		}
	}
}

// P9.3: of two right tuples that aren't the same just one stands ahead.
func TestOneAhead(t *testing.T) {
	list := someTuples()
	for _, a := range list {
		for _, b := range list {
			ahead, behind := Less(a, b), Less(b, a)
			if ahead && behind || Right(a) && Right(b) && (ahead || behind) == (a == b) {
				t.Errorf("%+v, %+v: %t, %t", a, b, ahead, behind)
			}
		}
	}
}

// P9.3: tuples stand in one order, however they came: each stands ahead of all behind it.
func TestOneOrder(t *testing.T) {
	var list []api.Tuple
	for _, x := range someTuples() {
		if Right(x) && !slices.Contains(list, x) {
			list = append(list, x)
		}
	}
	compare := func(a, b api.Tuple) int {
		switch {
		case Less(a, b):
			return -1
		case Less(b, a):
			return 1
		}
		return 0
	}
	chance := rand.New(rand.NewSource(93))
	slices.SortFunc(list, compare)
	for range 20 {
		other := slices.Clone(list)
		chance.Shuffle(len(other), func(i, k int) { other[i], other[k] = other[k], other[i] })
		slices.SortFunc(other, compare)
		if !slices.Equal(list, other) {
			t.Fatal("the order isn't one")
		}
	}
	for i, a := range list {
		for k, b := range list {
			if Less(a, b) != (i < k) {
				t.Errorf("%d, %d: %+v, %+v", i, k, a, b)
			}
		}
	}
}

// P9.3: what answers an echo, or whoever asks for the time, has its tuple, turned.
func TestAnswers(t *testing.T) {
	chance := rand.New(rand.NewSource(94))
	for range 500 {
		src, dst, rest := chance.Uint32(), chance.Uint32(), chance.Uint32()
		for asked, answer := range map[int]int{8: 0, 13: 14} {
			body := make([]byte, chance.Intn(20))
			x, e := Of(message(t, src, dst, api.ICMP{Type: asked, Rest: rest, Body: body}))
			if e != api.OK || x.Sport != int(rest>>16) {
				t.Fatalf("%+v, %d", x, e)
			}
			hasTuple(t, message(t, dst, src, api.ICMP{Type: answer, Rest: rest, Body: body}), Turn(x))
		}
	}
}

// P9.3: so has what answers a segment or a datagram.
func TestOtherAnswers(t *testing.T) {
	chance := rand.New(rand.NewSource(95))
	for range 500 {
		src, dst, a, z := chance.Uint32(), chance.Uint32(), chance.Intn(65536), chance.Intn(65536)
		x, e := Of(segment(t, src, dst, api.TCP{Sport: a, Dport: z, Flags: api.Syn}))
		if e != api.OK {
			t.Fatalf("%+v, %d", x, e)
		}
		hasTuple(t, segment(t, dst, src, api.TCP{Sport: z, Dport: a, Flags: api.Syn | api.Ack}), Turn(x))
		x, e = Of(datagram(t, src, dst, api.UDP{Sport: a, Dport: z}))
		if e != api.OK {
			t.Fatalf("%+v, %d", x, e)
		}
		hasTuple(t, datagram(t, dst, src, api.UDP{Sport: z, Dport: a}), Turn(x))
	}
}
