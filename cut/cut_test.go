package cut

import (
	"bytes"
	"fmt"
	"math"
	"math/rand"
	"testing"

	"casemate/api"
	"casemate/ip"
	"casemate/reasm"
)

// counted are as many bytes as are asked, no two beside one another alike.
func counted(n, step int) []byte {
	b := make([]byte, n)
	for i := range b {
		b[i] = byte((i+1)*step + i/256)
	}
	return b
}

// packet is one that is no piece, with so many bytes of options and of a body, and something in each other part.
func packet(opts, body int) api.IP {
	return api.IP{
		TOS: 0x12, ID: 0x3456, TTL: 0x78, Proto: 0x9a, Src: 0x0a0b0c0d, Dst: 0xc0a80105,
		Opts: counted(opts, 3), Body: counted(body, 5),
	}
}

// with is a packet, changed.
func with(p api.IP, change func(p *api.IP)) api.IP {
	change(&p)
	return p
}

// fixed is a packet that may not be cut.
func fixed(p api.IP) api.IP {
	p.DF = true
	return p
}

// piece is a packet, made a piece of a greater one.
func piece(p api.IP, off int, more bool) api.IP {
	p.Off, p.MF = off, more
	return p
}

// told is all that stands in packets, a nil list and an empty one alike.
func told(l []api.IP) string { return fmt.Sprintf("%+v", l) }

// lens are how many bytes of a body each packet has.
func lens(l []api.IP) []int {
	var n []int
	for _, x := range l {
		n = append(n, len(x.Body))
	}
	return n
}

// isCut fails unless a packet is cut into these pieces.
func isCut(t *testing.T, p api.IP, mtu int, want []api.IP) {
	t.Helper()
	l, e := Cut(p, mtu)
	if e != api.OK || told(l) != told(want) {
		t.Errorf("%+v by %d: %+v, %d instead of %+v", p, mtu, l, e, want)
	}
	if n := Most(p, mtu); n != len(want) {
		t.Errorf("%+v by %d: %d instead of %d", p, mtu, n, len(want))
	}
}

// isRefused fails unless a packet isn't cut, for this error.
func isRefused(t *testing.T, p api.IP, mtu int, want api.Errno) {
	t.Helper()
	l, e := Cut(p, mtu)
	if e != want || l != nil {
		t.Errorf("TOS %d, ID %d, DF %t, MF %t, Off %d, %d and %d bytes by %d: %d pieces, %d instead of %d",
			p.TOS, p.ID, p.DF, p.MF, p.Off, len(p.Opts), len(p.Body), mtu, len(l), e, want)
	}
	if n := Most(p, mtu); n != 0 {
		t.Errorf("%d and %d bytes by %d: %d pieces", len(p.Opts), len(p.Body), mtu, n)
	}
}

// slowly cuts a packet byte by byte, apart from Cut: what it can't answer is an error.
func slowly(p api.IP, mtu int) ([]api.IP, api.Errno) {
	if 20+len(p.Opts)+len(p.Body) <= mtu {
		return []api.IP{p}, api.OK
	}
	if p.DF {
		return nil, api.ErrFrag
	}
	n := 0
	for k := 8; 20+len(p.Opts)+k <= mtu; k += 8 {
		n = k
	}
	if n == 0 {
		return nil, api.ErrLen
	}
	var l []api.IP
	for at, b := range p.Body {
		if at%n == 0 {
			x := p
			x.Off, x.MF, x.Body = p.Off+at, true, nil
			l = append(l, x)
		}
		l[len(l)-1].Body = append(l[len(l)-1].Body, b)
	}
	l[len(l)-1].MF = p.MF
	return l, api.OK
}

// P8.1: the packet alone, if it fits.
func TestFits(t *testing.T) {
	for _, c := range []struct {
		p   api.IP
		mtu int
	}{
		{api.IP{}, 28}, {api.IP{}, 65535}, {packet(0, 0), 28}, {packet(8, 0), 28}, {packet(40, 0), 60}, {packet(0, 1), 28},
		{packet(0, 8), 28}, {packet(0, 7), 28}, {packet(0, 9), 29}, {packet(0, 15), 35}, {packet(4, 8), 32}, {packet(4, 4), 28}, {packet(40, 8), 68},
		{packet(0, 1480), 1500}, {packet(0, 1400), 1500}, {packet(0, 1), 65535}, {packet(0, 65515), 65535}, {packet(40, 65475), 65535}, {packet(0, 65514), 65534},
		// One that may not be cut fits as well.
		{fixed(packet(0, 8)), 28}, {fixed(packet(40, 8)), 68}, {fixed(packet(0, 65515)), 65535}, {fixed(packet(8, 0)), 28}, {fixed(api.IP{}), 28},
		// A piece stays the piece that it is.
		{piece(packet(0, 8), 0, true), 28}, {piece(packet(0, 8), 16, true), 28}, {piece(packet(0, 3), 16, false), 28}, {piece(packet(4, 40), 64, true), 64},
		{piece(packet(0, 0), 8, false), 28}, {piece(packet(0, 0), 65512, false), 28}, {piece(packet(0, 3), 65512, false), 28}, {piece(packet(0, 65512), 0, true), 65532},
		{fixed(piece(packet(0, 8), 16, true)), 28},
	} {
		isCut(t, c.p, c.mtu, []api.IP{c.p})
	}
}

// P8.1: the chapter's example.
func TestExample(t *testing.T) {
	p := packet(0, 28)
	l, e := Cut(p, 28)
	if e != api.OK || fmt.Sprint(lens(l)) != "[8 8 8 4]" || Most(p, 28) != 4 {
		t.Fatalf("%+v, %d", l, e)
	}
	for i, x := range l {
		if x.Off != 8*i || x.MF != (i < 3) || !bytes.Equal(x.Body, p.Body[8*i:min(8*i+8, 28)]) {
			t.Errorf("%d: %+v", i, x)
		}
	}
}

// P8.1: the pieces, in order, as long as fits.
func TestCut(t *testing.T) {
	for _, c := range []struct {
		p    api.IP
		mtu  int
		want []int
	}{
		// One byte more than fits.
		{packet(0, 9), 28, []int{8, 1}}, {packet(0, 10), 29, []int{8, 2}}, {packet(0, 17), 36, []int{16, 1}}, {packet(0, 1481), 1500, []int{1480, 1}},
		{packet(40, 9), 68, []int{8, 1}}, {packet(0, 65515), 65534, []int{65512, 3}}, {packet(40, 65475), 65534, []int{65472, 3}},
		// n is a multiple of 8, though more would fit with the head.
		{packet(0, 16), 35, []int{8, 8}}, {packet(0, 40), 35, []int{8, 8, 8, 8, 8}}, {packet(0, 40), 36, []int{16, 16, 8}}, {packet(0, 40), 43, []int{16, 16, 8}},
		{packet(0, 40), 44, []int{24, 16}}, {packet(0, 40), 51, []int{24, 16}}, {packet(0, 40), 52, []int{32, 8}}, {packet(0, 40), 59, []int{32, 8}},
		{packet(0, 39), 58, []int{32, 7}}, {packet(0, 2000), 1500, []int{1480, 520}}, {packet(0, 2000), 1499, []int{1472, 528}},
		// Nothing stands behind what is a multiple.
		{packet(0, 32), 36, []int{16, 16}}, {packet(0, 33), 36, []int{16, 16, 1}}, {packet(0, 31), 36, []int{16, 15}},
		// Options are of each head.
		{packet(4, 16), 32, []int{8, 8}}, {packet(4, 16), 39, []int{8, 8}}, {packet(4, 17), 40, []int{16, 1}}, {packet(36, 20), 64, []int{8, 8, 4}},
		{packet(40, 20), 68, []int{8, 8, 4}}, {packet(40, 20), 75, []int{8, 8, 4}}, {packet(40, 20), 76, []int{16, 4}},
	} {
		for _, off := range []int{0, 8, 16, 4096} {
			for _, more := range []bool{false, true} {
				last := c.want[len(c.want)-1]
				if more && last%8 != 0 || off+len(c.p.Body) > 65000 && off > 0 {
					continue
				}
				p := piece(c.p, off, more)
				var want []api.IP
				at := 0
				for i, n := range c.want {
					x := piece(p, off+at, more || i < len(c.want)-1)
					x.Body = p.Body[at : at+n]
					want = append(want, x)
					at += n
				}
				isCut(t, p, c.mtu, want)
			}
		}
	}
}

// P8.1: what is cut keeps each part of its head in each piece.
func TestHeads(t *testing.T) {
	for i, change := range []func(p *api.IP){
		func(p *api.IP) {}, func(p *api.IP) { p.TOS = 0 }, func(p *api.IP) { p.TOS = 255 }, func(p *api.IP) { p.ID = 0 }, func(p *api.IP) { p.ID = 65535 },
		func(p *api.IP) { p.TTL = 0 }, func(p *api.IP) { p.TTL = 1 }, func(p *api.IP) { p.TTL = 255 }, func(p *api.IP) { p.Proto = 0 }, func(p *api.IP) { p.Proto = 1 },
		func(p *api.IP) { p.Proto = 255 }, func(p *api.IP) { p.Src = 0 }, func(p *api.IP) { p.Src = 1<<32 - 1 }, func(p *api.IP) { p.Dst = 0 },
		func(p *api.IP) { p.Dst = 1<<32 - 1 }, func(p *api.IP) { p.Opts = nil }, func(p *api.IP) { p.Opts = make([]byte, 4) }, func(p *api.IP) { p.Opts = counted(40, 7) },
		func(p *api.IP) { p.Opts = []byte{0, 1, 0x82, 0x83} }, func(p *api.IP) { p.Off = 80 }, func(p *api.IP) { p.MF = true },
	} {
		p := with(packet(8, 168), change)
		l, e := Cut(p, 100)
		if e != api.OK || len(l) < 3 {
			t.Fatalf("%d: %+v, %d", i, l, e)
		}
		for k, x := range l {
			if x.DF || x.MF != (p.MF || k < len(l)-1) || x.Off != p.Off+k*len(l[0].Body) {
				t.Errorf("%d, %d: %+v", i, k, x)
			}
			x.MF, x.Off, x.Body = p.MF, p.Off, p.Body
			if !ip.Same(x, p) {
				t.Errorf("%d, %d: %+v isn't %+v", i, k, x, p)
			}
		}
	}
}

// P8.1: each length of a head and of a body, by each way, as the chapter tells it.
func TestCutSlowly(t *testing.T) {
	seen := map[api.Errno]int{}
	for opts := 0; opts <= 40; opts += 4 {
		for body := range 60 {
			for mtu := 28; mtu <= 125; mtu++ {
				p := packet(opts, body)
				p.MF, p.Off, p.DF = body > 0 && body%8 == 0 && mtu%3 > 0, (opts+mtu)%5*8, (body+mtu)%7 == 0
				want, e := slowly(p, mtu)
				seen[e]++
				if e == api.OK {
					isCut(t, p, mtu, want)
				} else {
					isRefused(t, p, mtu, e)
				}
			}
		}
	}
	for _, e := range []api.Errno{api.OK, api.ErrFrag, api.ErrLen} {
		if seen[e] < 1000 {
			t.Errorf("%d: %d times", e, seen[e])
		}
	}
}

// P8.1: a way that may not be.
func TestWayErrors(t *testing.T) {
	for _, mtu := range []int{27, 26, 20, 8, 1, 0, -1, -28, 65536, 65537, 1 << 17, 65536 + 28, 1<<32 + 100, math.MaxInt32, math.MinInt32, math.MaxInt, math.MinInt} {
		for _, p := range []api.IP{{}, packet(0, 0), packet(0, 1), packet(0, 100), packet(40, 100), fixed(packet(0, 100)), packet(0, 65515), piece(packet(0, 8), 8, true)} {
			isRefused(t, p, mtu, api.ErrArg)
		}
	}
}

// P8.1: a packet that may not be put, whether it fits, may be cut, or neither.
func TestPacketErrors(t *testing.T) {
	for _, change := range []func(p *api.IP){
		func(p *api.IP) { p.TOS = -1 }, func(p *api.IP) { p.TOS = 256 }, func(p *api.IP) { p.TOS = math.MinInt }, func(p *api.IP) { p.ID = -1 },
		func(p *api.IP) { p.ID = 65536 }, func(p *api.IP) { p.TTL = -1 }, func(p *api.IP) { p.TTL = 256 }, func(p *api.IP) { p.Proto = -1 },
		func(p *api.IP) { p.Proto = 256 }, func(p *api.IP) { p.Off = -8 }, func(p *api.IP) { p.Off = 4 }, func(p *api.IP) { p.Off = 65536 },
		func(p *api.IP) { p.Off = 65528 }, func(p *api.IP) { p.Off = math.MaxInt }, func(p *api.IP) { p.Off = math.MinInt },
		func(p *api.IP) { p.Opts = make([]byte, 3) }, func(p *api.IP) { p.Opts = make([]byte, 5) }, func(p *api.IP) { p.Opts = make([]byte, 41) },
		func(p *api.IP) { p.Opts = make([]byte, 44) }, func(p *api.IP) { p.Opts = make([]byte, 70000) }, func(p *api.IP) { p.Body = make([]byte, 65516) },
		func(p *api.IP) { p.Body = make([]byte, 1<<20) }, func(p *api.IP) { p.Off, p.Body = 65512, make([]byte, 4) }, func(p *api.IP) { p.Off, p.Body = 8, make([]byte, 65508) },
		func(p *api.IP) { p.MF, p.Body = true, nil }, func(p *api.IP) { p.MF, p.Body = true, make([]byte, 7) }, func(p *api.IP) { p.MF, p.Body = true, make([]byte, 101) },
		func(p *api.IP) { p.MF, p.Off, p.Body = true, 65512, make([]byte, 8) },
	} {
		for _, mtu := range []int{28, 40, 100, 1500, 65535, 27, 0, -1, 65536} {
			for _, p := range []api.IP{packet(0, 0), packet(0, 100), fixed(packet(0, 100))} {
				isRefused(t, with(p, change), mtu, api.ErrArg)
			}
		}
	}
}

// P8.1: what doesn't fit and may not be cut, whether a piece would fit or not.
func TestMayNotBeCut(t *testing.T) {
	for _, c := range []struct {
		p   api.IP
		mtu int
	}{
		{packet(0, 9), 28}, {packet(0, 10), 29}, {packet(0, 1481), 1500}, {packet(0, 65515), 65534}, {packet(0, 65515), 28}, {packet(40, 9), 68},
		{piece(packet(0, 16), 0, true), 28}, {piece(packet(0, 16), 16, true), 35}, {piece(packet(0, 9), 16, false), 28},
		// A piece wouldn't fit either.
		{packet(12, 0), 28}, {packet(40, 0), 59}, {packet(40, 8), 67}, {packet(4, 8), 31}, {packet(4, 100), 28}, {packet(40, 100), 28},
	} {
		isRefused(t, fixed(c.p), c.mtu, api.ErrFrag)
	}
}

// P8.1: what doesn't fit, of which no 8 bytes fit with the head.
func TestTooLittleFits(t *testing.T) {
	for _, c := range []struct {
		p   api.IP
		mtu int
	}{
		{packet(4, 8), 31}, {packet(4, 5), 28}, {packet(4, 100), 31}, {packet(4, 100), 28}, {packet(8, 1), 28}, {packet(8, 100), 35}, {packet(40, 8), 67}, {packet(40, 100), 67}, {packet(40, 100), 60},
		{piece(packet(4, 8), 16, true), 31}, {piece(packet(4, 9), 16, false), 31},
		// The head alone doesn't fit.
		{packet(12, 0), 28}, {packet(12, 0), 31}, {packet(12, 1), 31}, {packet(40, 0), 28}, {packet(40, 0), 59}, {packet(40, 1), 59}, {packet(40, 100), 28}, {packet(40, 100), 52}, {packet(36, 100), 36},
		{packet(40, 65475), 67},
	} {
		isRefused(t, c.p, c.mtu, api.ErrLen)
	}
	// A byte more of the way, and it is cut.
	if fmt.Sprint(Most(packet(4, 100), 32), Most(packet(40, 100), 68), Most(packet(40, 65475), 68)) != "13 13 8185" {
		t.Error(Most(packet(4, 100), 32), Most(packet(40, 100), 68), Most(packet(40, 65475), 68))
	}
}

// roomy is a copy of bytes with spare room that has something in it.
func roomy(b []byte) []byte { return append(bytes.Clone(b), 0x77, 0x77, 0x77)[:len(b)] }

// spare is all that stands in a packet and in the spare room of its lists.
func spare(p api.IP) string { return fmt.Sprint(p, p.Opts[:cap(p.Opts)], p.Body[:cap(p.Body)]) }

// spoil changes bytes and their spare room.
func spoil(b []byte) {
	b = b[:cap(b)]
	for i := range b {
		b[i] ^= 0x5a
	}
}

// P8.1: what is handed in stays, its spare room too, and no two lists of an answer share memory, nor one with what came.
func TestCutLeaves(t *testing.T) {
	for i, c := range []struct {
		p   api.IP
		mtu int
	}{
		{packet(8, 100), 200}, {packet(8, 100), 128}, {fixed(packet(8, 100)), 128}, {packet(8, 100), 127}, {packet(8, 100), 60}, {piece(packet(8, 96), 16, true), 60},
		{packet(8, 100), 36}, {packet(8, 100), 35}, {fixed(packet(8, 100)), 60}, {packet(8, 100), 27}, {packet(0, 100), 28},
	} {
		p := c.p
		p.Opts, p.Body = roomy(p.Opts), roomy(p.Body)
		before := spare(p)
		Most(p, c.mtu)
		l, _ := Cut(p, c.mtu)
		if spare(p) != before {
			t.Errorf("%d: %s is changed to %s", i, before, spare(p))
		}
		var lists [][]byte
		for _, x := range l {
			lists = append(lists, x.Opts, x.Body)
		}
		for k := range lists {
			rest := fmt.Sprint(lists[k+1:])
			spoil(lists[k])
			if fmt.Sprint(lists[k+1:]) != rest || spare(p) != before {
				t.Errorf("%d, %d: %s and %s, and %s and %s", i, k, rest, before, fmt.Sprint(lists[k+1:]), spare(p))
			}
		}
		l, e := Cut(p, c.mtu)
		want := told(l)
		spoil(p.Opts)
		spoil(p.Body)
		if told(l) != want {
			t.Errorf("%d: %s, and %s, %d", i, want, told(l), e)
		}
	}
}

// drawn is a packet that may be put and cut, of parts that are drawn.
func drawn(chance *rand.Rand) api.IP {
	p := api.IP{
		TOS: chance.Intn(256), ID: chance.Intn(65536), TTL: chance.Intn(256), Proto: chance.Intn(256),
		Src: chance.Uint32(), Dst: chance.Uint32(), Opts: make([]byte, 4*chance.Intn(11)), Body: make([]byte, 1+chance.Intn(400)),
	}
	chance.Read(p.Opts)
	chance.Read(p.Body)
	return p
}

// joined are the bodies of pieces, one behind the other.
func joined(l []api.IP) []byte {
	var b []byte
	for _, x := range l {
		b = append(b, x.Body...)
	}
	return b
}

// P8.2: each piece fits, and may be put; the bodies are the packet's.
func TestPiecesFit(t *testing.T) {
	chance := rand.New(rand.NewSource(81))
	for range 2000 {
		p := drawn(chance)
		if chance.Intn(2) == 0 {
			p.Off = 8 * chance.Intn(8100)
		}
		if p.MF = chance.Intn(3) == 0; p.MF {
			p.Body = append(p.Body, make([]byte, 7-(len(p.Body)+7)%8)...)
		}
		mtu := 28 + len(p.Opts) + chance.Intn(200)
		l, e := Cut(p, mtu)
		if e != api.OK || len(l) == 0 || !bytes.Equal(joined(l), p.Body) {
			t.Fatalf("%+v by %d: %+v, %d", p, mtu, l, e)
		}
		for i, x := range l {
			b, e := ip.Put(x)
			if e != api.OK || len(b) > mtu || len(b)+8 <= mtu && i < len(l)-1 {
				t.Errorf("%+v by %d: %+v, %d", p, mtu, x, e)
			}
			if y, e := ip.Parse(b); e != api.OK || !ip.Same(x, y) {
				t.Errorf("%+v is parsed as %+v, %d", x, y, e)
			}
		}
	}
}

// together is what pieces make, if the last of them makes something, and no other.
func together(t *testing.T, l []api.IP) api.IP {
	t.Helper()
	p, _ := reasm.New(1<<20, 1)
	for i, x := range l {
		n, y, ok, e := reasm.Take(p, x)
		if e != api.OK || ok != (i == len(l)-1) {
			t.Fatalf("%d of %d: %+v, %t, %d", i, len(l), x, ok, e)
		}
		if ok {
			return y
		}
		p = n
	}
	return api.IP{}
}

// P8.2: put together the pieces make the packet, in any order, also if they are cut once more on their way.
func TestPiecesMakePackets(t *testing.T) {
	chance := rand.New(rand.NewSource(82))
	for range 600 {
		p := drawn(chance)
		l := []api.IP{p}
		for range 1 + chance.Intn(3) {
			mtu := 28 + len(p.Opts) + chance.Intn(150)
			var more []api.IP
			for _, x := range l {
				some, e := Cut(x, mtu)
				if e != api.OK {
					t.Fatalf("%+v by %d: %d", x, mtu, e)
				}
				more = append(more, some...)
			}
			l = more
			if y := together(t, l); !ip.Same(y, p) {
				t.Errorf("%+v isn't %+v", y, p)
			}
			chance.Shuffle(len(l), func(i, k int) { l[i], l[k] = l[k], l[i] })
		}
		if y := together(t, l); !ip.Same(y, p) {
			t.Errorf("%+v isn't %+v", y, p)
		}
	}
}

// P8.1 and P8.2: of the greatest packets too, by the least way and by greater ones.
func TestGreatestPacket(t *testing.T) {
	for _, c := range []struct{ opts, mtu, want int }{{0, 28, 8190}, {40, 68, 8185}, {0, 576, 119}, {0, 1500, 45}, {40, 1500, 46}, {0, 65534, 2}, {40, 65534, 2}, {0, 65535, 1}, {40, 65535, 1}} {
		p := packet(c.opts, 65515-c.opts)
		l, e := Cut(p, c.mtu)
		if e != api.OK || len(l) != c.want || Most(p, c.mtu) != c.want || !bytes.Equal(joined(l), p.Body) {
			t.Fatalf("%+v: %d pieces, %d", c, len(l), e)
		}
		for i, x := range l {
			if b, e := ip.Put(x); e != api.OK || len(b) > c.mtu {
				t.Errorf("%+v, %d: %d bytes, %d", c, i, len(b), e)
			}
		}
		if len(l) < 200 && !ip.Same(together(t, l), p) {
			t.Errorf("%+v: it isn't the packet", c)
		}
	}
	// A piece that ends where the greatest packet does.
	last := piece(packet(0, 43), 65472, false)
	l, e := Cut(last, 28)
	if e != api.OK || fmt.Sprint(lens(l)) != "[8 8 8 8 8 3]" || l[5].Off != 65512 || l[5].MF {
		t.Errorf("%+v, %d", l, e)
	}
}
