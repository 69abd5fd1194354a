package icmp

import (
	"bytes"
	"math"
	"math/rand"
	"testing"

	"casemate/api"
	"casemate/ip"
)

// sample is a message that has something in each of its parts, and may be put.
func sample() api.ICMP {
	return api.ICMP{Type: 8, Code: 5, Rest: 0x01020304, Body: []byte{11, 12, 13, 14, 15}}
}

// with is the sample, changed.
func with(change func(m *api.ICMP)) api.ICMP {
	m := sample()
	change(&m)
	return m
}

// packet is one that has something in each of its parts, and may be put.
func packet() api.IP {
	return api.IP{TOS: 3, ID: 0x1234, DF: true, TTL: 64, Proto: 17, Src: 0x0a000001, Dst: 0x08080404, Opts: []byte{1, 1, 1, 0}, Body: counted(20, 3)}
}

// withPacket is the packet, changed.
func withPacket(change func(p *api.IP)) api.IP {
	p := packet()
	change(&p)
	return p
}

// counted are as many bytes as are asked, no two beside one another alike.
func counted(n, step int) []byte {
	b := make([]byte, n)
	for i := range b {
		b[i] = byte((i + 1) * step)
	}
	return b
}

// sumOf adds the words of bytes one by one, apart from csum.
func sumOf(b []byte) int {
	sum := 0
	for i, c := range b {
		if i%2 == 0 {
			sum += int(c) << 8
		} else {
			sum += int(c)
		}
		if sum > 65535 {
			sum -= 65535
		}
	}
	return sum
}

// checked is a copy of bytes with another word at a place.
func checked(b []byte, at, word int) []byte {
	c := bytes.Clone(b)
	c[at], c[at+1] = byte(word>>8), byte(word)
	return c
}

// sealed is a copy of bytes with the check sum at its place that they ask for.
func sealed(b []byte, at int) []byte {
	return checked(b, at, 65535-sumOf(checked(b, at, 0)))
}

// slowly writes a message out part by part, apart from Put.
func slowly(m api.ICMP) []byte {
	b := []byte{byte(m.Type), byte(m.Code), 0, 0}
	for _, shift := range []int{24, 16, 8, 0} {
		b = append(b, byte(m.Rest>>shift))
	}
	return sealed(append(b, m.Body...), 2)
}

// packed are a packet's bytes.
func packed(t *testing.T, p api.IP) []byte {
	t.Helper()
	b, e := ip.Put(p)
	if e != api.OK {
		t.Fatalf("%+v: %d", p, e)
	}
	return b
}

// resealed is a copy of a packet's bytes, changed at one place, with the check sum that its head then asks for.
func resealed(b []byte, at, word int) []byte {
	c := checked(b, at, word)
	size := int(c[0]&15) * 4
	return append(sealed(c[:size], 10), c[size:]...)
}

// about is an error with a body.
func about(body []byte) api.ICMP { return api.ICMP{Type: 3, Code: 1, Body: body} }

// asItWas fails if a message isn't the one that it was, part by part, apart from Same.
func asItWas(t *testing.T, got, want api.ICMP) {
	t.Helper()
	if got.Type != want.Type || got.Code != want.Code || got.Rest != want.Rest || string(got.Body) != string(want.Body) {
		t.Errorf("%+v isn't %+v", got, want)
	}
}

// someMessages may all be put: each part at its edges, and many by the way.
func someMessages() []api.ICMP {
	list := []api.ICMP{
		{}, sample(), {Type: 255, Code: 255, Rest: 0xffffffff}, {Type: 255}, {Code: 255}, {Rest: 1}, {Rest: 1 << 31},
		{Body: counted(65527, 3)}, {Body: counted(65526, 3)}, {Type: 255, Code: 255, Rest: 0xffffffff, Body: bytes.Repeat([]byte{255}, 65527)},
		{Body: make([]byte, 65527)}, {Body: make([]byte, 40)}, {Body: counted(247, 1)}, {Body: counted(248, 1)}, {Body: counted(249, 1)},
	}
	for n := range 30 {
		list = append(list, api.ICMP{Type: n, Code: n * 3, Rest: uint32(n), Body: counted(n, 7)})
	}
	for bit := range 32 {
		list = append(list, api.ICMP{Rest: 1 << bit}, api.ICMP{Type: 1 << (bit % 8)}, api.ICMP{Code: 1 << (bit % 8)})
	}
	chance := rand.New(rand.NewSource(6))
	for range 400 {
		m := api.ICMP{Type: chance.Intn(256), Code: chance.Intn(256), Rest: chance.Uint32(), Body: make([]byte, chance.Intn(100))}
		chance.Read(m.Body)
		list = append(list, m)
	}
	return list
}

// P6.1, with the chapter's example.
func TestPut(t *testing.T) {
	for i, c := range []struct {
		m    api.ICMP
		want []byte
	}{
		{api.ICMP{Type: 8, Rest: 7<<16 | 1}, []byte{8, 0, 0xf7, 0xf7, 0, 7, 0, 1}},
		{api.ICMP{Type: 8, Rest: 7<<16 | 1, Body: []byte{1, 2}}, []byte{8, 0, 0xf6, 0xf5, 0, 7, 0, 1, 1, 2}},
		{api.ICMP{}, []byte{0, 0, 0xff, 0xff, 0, 0, 0, 0}},
		{sample(), []byte{8, 5, 0xcc, 0xda, 1, 2, 3, 4, 11, 12, 13, 14, 15}},
		// A check sum that comes out as 0 stays 0.
		{api.ICMP{Type: 255, Code: 255}, []byte{255, 255, 0, 0, 0, 0, 0, 0}},
		{api.ICMP{Rest: 0xffff}, []byte{0, 0, 0, 0, 0, 0, 255, 255}},
	} {
		b, e := Put(c.m)
		if e != api.OK || !bytes.Equal(b, c.want) {
			t.Errorf("%d: % x, %d instead of % x", i, b, e, c.want)
		}
	}
}

// P6.1: each part stands in its place, at its edges and between.
func TestPutSlowly(t *testing.T) {
	for _, m := range someMessages() {
		if b, e := Put(m); e != api.OK || !bytes.Equal(b, slowly(m)) || sumOf(b) != 65535 {
			t.Errorf("%+v is put as % x, %d", m, b, e)
		}
	}
}

// P6.1: numbers and lengths of which there is no place in the bytes.
func TestPutErrors(t *testing.T) {
	var list []api.ICMP
	for _, n := range []int{-1, 256, 256 + 8, -256, 65536, math.MaxInt, math.MinInt} {
		list = append(list,
			with(func(m *api.ICMP) { m.Type = n }),
			with(func(m *api.ICMP) { m.Code = n }),
			with(func(m *api.ICMP) { m.Type, m.Code = n, -n }))
	}
	for _, n := range []int{65528, 65529, 65535, 65536, 65537, 1 << 17, 1 << 20} {
		list = append(list, api.ICMP{Body: make([]byte, n)}, with(func(m *api.ICMP) { m.Body = counted(n, 3) }))
	}
	for i, m := range list {
		if b, e := Put(m); e != api.ErrArg || b != nil {
			t.Errorf("%d: %d bytes, %d", i, len(b), e)
		}
	}
}

// P6.1: what is handed in stays, its spare room too, and the answer is new memory.
func TestPutLeaves(t *testing.T) {
	body := counted(20, 5)
	b, e := Put(api.ICMP{Type: 8, Body: body[3:10]})
	if e != api.OK {
		t.Fatal(e)
	}
	for i := range b {
		b[i] = 0xee
	}
	_ = append(b, 0xee)
	if !bytes.Equal(body, counted(20, 5)) {
		t.Errorf("the body is % x", body)
	}
	b, _ = Put(api.ICMP{Body: body[3:10]})
	clear(body)
	if !bytes.Equal(b, slowly(api.ICMP{Body: counted(20, 5)[3:10]})) {
		t.Errorf("the answer was changed to % x", b)
	}
}

// P6.1
func TestParse(t *testing.T) {
	for i, c := range []struct {
		b    []byte
		want api.ICMP
	}{
		{[]byte{8, 0, 0xf7, 0xf7, 0, 7, 0, 1}, api.ICMP{Type: 8, Rest: 7<<16 | 1}},
		{[]byte{0, 0, 0xff, 0xff, 0, 0, 0, 0}, api.ICMP{}},
		{[]byte{255, 255, 0, 0, 0, 0, 0, 0}, api.ICMP{Type: 255, Code: 255}},
		{[]byte{8, 5, 0xcc, 0xda, 1, 2, 3, 4, 11, 12, 13, 14, 15}, sample()},
		// A check sum of 65535 where 0 would do.
		{[]byte{255, 255, 255, 255, 0, 0, 0, 0}, api.ICMP{Type: 255, Code: 255}},
		{slowly(api.ICMP{Body: counted(65527, 3)}), api.ICMP{Body: counted(65527, 3)}},
	} {
		m, e := Parse(c.b)
		if e != api.OK {
			t.Errorf("%d: %d", i, e)
		}
		asItWas(t, m, c.want)
	}
}

// P6.1: bytes that are none, one error each.
func TestParseErrors(t *testing.T) {
	plain := slowly(sample())
	set := func(at int, x byte) []byte { c := bytes.Clone(plain); c[at] = x; return c }
	for i, c := range []struct {
		b    []byte
		want api.Errno
	}{
		{nil, api.ErrShort},
		{[]byte{}, api.ErrShort},
		{[]byte{8}, api.ErrShort},
		{make([]byte, 7), api.ErrShort},
		{plain[:7], api.ErrShort},
		{[]byte{255, 255, 0, 0, 0, 0, 0}, api.ErrShort},
		{make([]byte, 65536), api.ErrLen},
		{make([]byte, 70000), api.ErrLen},
		{sealed(counted(65536, 3), 2), api.ErrLen},
		{make([]byte, 65535), api.ErrSum},
		{make([]byte, 8), api.ErrSum},
		{set(0, 9), api.ErrSum},
		{set(1, 4), api.ErrSum},
		{set(2, 0xcd), api.ErrSum},
		{set(3, 0xd9), api.ErrSum},
		{set(4, 0), api.ErrSum},
		{set(7, 0), api.ErrSum},
		{set(12, 0), api.ErrSum},
		{plain[:12], api.ErrSum},
		{plain[:8], api.ErrSum},
	} {
		m, e := Parse(c.b)
		if e != c.want {
			t.Errorf("%d: %d instead of %d", i, e, c.want)
		}
		asItWas(t, m, api.ICMP{})
		if m.Body != nil {
			t.Errorf("%d: a body that isn't nil", i)
		}
	}
}

// P6.1 and P6.4: of all check sums the one that is asked for fits, and where that is 0 its other form too.
func TestParseEachSum(t *testing.T) {
	for _, want := range []api.ICMP{{}, sample(), {Type: 255, Code: 255}, {Rest: 0xffff, Body: make([]byte, 3)}, {Body: counted(600, 11)}} {
		b := slowly(want)
		right := int(b[2])<<8 | int(b[3])
		for check := range 65536 {
			m, e := Parse(checked(b, 2, check))
			fits := check == right || right == 0 && check == 65535
			if fits && (e != api.OK || !Same(m, want)) || !fits && e != api.ErrSum {
				t.Errorf("with the sum %04x instead of %04x: %+v, %d", check, right, m, e)
			}
		}
	}
}

// P6.1 and P6.4: any bytes have an answer, and one that is a message is put as it was.
func TestParseOfAnything(t *testing.T) {
	chance := rand.New(rand.NewSource(61))
	seen := map[api.Errno]int{}
	for range 30000 {
		b := make([]byte, chance.Intn(40))
		chance.Read(b)
		if len(b) >= 8 && chance.Intn(2) == 0 {
			b = sealed(b, 2)
		}
		m, e := Parse(b)
		seen[e]++
		if e != api.OK {
			asItWas(t, m, api.ICMP{})
			continue
		}
		if again, e := Put(m); e != api.OK || !bytes.Equal(again, b) && (b[2] != 255 || b[3] != 255) {
			t.Errorf("% x is parsed as %+v, and put as % x, %d", b, m, again, e)
		}
	}
	if seen[api.OK] < 1000 || seen[api.ErrShort] < 1000 || seen[api.ErrSum] < 1000 {
		t.Error(seen)
	}
}

// P6.1: what is handed in stays, its spare room too, and the answer's body is new memory.
func TestParseLeaves(t *testing.T) {
	b := append(slowly(sample()), 1, 2, 3, 4)
	before := bytes.Clone(b)
	m, _ := Parse(b[:13])
	_ = append(m.Body, 0xee, 0xee)
	asItWas(t, m, sample())
	clear(m.Body)
	if !bytes.Equal(b, before) {
		t.Errorf("the bytes were changed to % x", b)
	}
	m, _ = Parse(b[:13])
	clear(b)
	asItWas(t, m, sample())
}

// P6.1
func TestSame(t *testing.T) {
	if !Same(sample(), sample()) || !Same(api.ICMP{}, api.ICMP{}) {
		t.Error("not the same as itself")
	}
	// A list is nil or empty alike, and spare room doesn't count.
	if empty := (api.ICMP{Body: []byte{}}); !Same(api.ICMP{}, empty) || !Same(empty, api.ICMP{}) {
		t.Error("nil and empty bodies aren't the same")
	}
	if !Same(api.ICMP{Body: make([]byte, 2, 8)}, api.ICMP{Body: make([]byte, 2)}) {
		t.Error("spare room counts")
	}
	for i, m := range []api.ICMP{
		{},
		with(func(m *api.ICMP) { m.Type++ }),
		with(func(m *api.ICMP) { m.Type += 256 }),
		with(func(m *api.ICMP) { m.Type = -m.Type }),
		with(func(m *api.ICMP) { m.Code++ }),
		with(func(m *api.ICMP) { m.Code += 256 }),
		with(func(m *api.ICMP) { m.Type, m.Code = m.Code, m.Type }),
		with(func(m *api.ICMP) { m.Rest++ }),
		with(func(m *api.ICMP) { m.Rest ^= 1 << 31 }),
		with(func(m *api.ICMP) { m.Rest = m.Rest<<16 | m.Rest>>16 }),
		with(func(m *api.ICMP) { m.Body = nil }),
		with(func(m *api.ICMP) { m.Body = m.Body[:4] }),
		with(func(m *api.ICMP) { m.Body = m.Body[1:] }),
		with(func(m *api.ICMP) { m.Body = append(m.Body, 0) }),
		with(func(m *api.ICMP) { m.Body[0]++ }),
		with(func(m *api.ICMP) { m.Body[4]++ }),
	} {
		if Same(m, sample()) || Same(sample(), m) {
			t.Errorf("%d: the same", i)
		}
		if !Same(m, m) {
			t.Errorf("%d: not the same as itself", i)
		}
	}
}

// kindOf is what a type is, as the chapter lists them.
func kindOf(kind int) (asks, answers, isAnError bool) {
	for _, k := range []int{8, 13} {
		asks = asks || kind == k
	}
	for _, k := range []int{0, 14} {
		answers = answers || kind == k
	}
	for _, k := range []int{3, 4, 11, 12} {
		isAnError = isAnError || kind == k
	}
	return asks, answers, isAnError
}

// P6.1: what each type is, whatever else the message has.
func TestKinds(t *testing.T) {
	kinds := []int{-1, -8, -256, 256, 256 + 8, 256 + 3, math.MaxInt, math.MinInt}
	for kind := range 256 {
		kinds = append(kinds, kind)
	}
	for _, kind := range kinds {
		asks, answers, isAnError := kindOf(kind)
		for _, m := range []api.ICMP{
			{Type: kind}, {Type: kind, Code: 3, Rest: 0x00070001, Body: []byte{1}}, {Type: kind, Code: -1, Rest: 0xffff0000}, {Type: kind, Rest: 0x80000000},
		} {
			if Asks(m) != asks || Answers(m) != answers || Error(m) != isAnError {
				t.Errorf("%+v: %t %t %t", m, Asks(m), Answers(m), Error(m))
			}
			name := 0
			if asks || answers {
				name = int(m.Rest / 65536)
			}
			if Name(m) != name {
				t.Errorf("%+v: %d instead of %d", m, Name(m), name)
			}
		}
	}
}

// P6.1: names at their edges.
func TestName(t *testing.T) {
	for _, c := range []struct {
		rest uint32
		want int
	}{
		{0, 0}, {1, 0}, {0xffff, 0}, {0x10000, 1}, {0x00070001, 7}, {0x7fffffff, 0x7fff}, {0x80000000, 0x8000}, {0xffffffff, 0xffff},
	} {
		for _, kind := range []int{0, 8, 13, 14} {
			if got := Name(api.ICMP{Type: kind, Rest: c.rest}); got != c.want {
				t.Errorf("type %d, %08x: %d instead of %d", kind, c.rest, got, c.want)
			}
		}
		for _, kind := range []int{3, 4, 5, 11, 12, 15} {
			if got := Name(api.ICMP{Type: kind, Rest: c.rest}); got != 0 {
				t.Errorf("type %d, %08x: %d", kind, c.rest, got)
			}
		}
	}
}

// P6.2: of the packet stands as much as is there, but no more than its whole length.
func TestAbout(t *testing.T) {
	for _, p := range []api.IP{
		packet(), withPacket(func(p *api.IP) { p.Opts = nil }), withPacket(func(p *api.IP) { p.Opts = make([]byte, 40) }),
		{}, {Body: []byte{9}}, {TOS: 255, ID: 65535, TTL: 255, Proto: 255, Src: 0xffffffff, Dst: 0x80000001, Body: counted(600, 1)},
		{Body: counted(7, 1)}, {Body: counted(8, 1)}, {Body: counted(9, 1)}, {Body: counted(65515, 1)}, {Opts: counted(40, 1), Body: counted(65475, 1)},
	} {
		b := packed(t, p)
		size := 20 + len(p.Opts)
		for _, there := range []int{size, size + 1, size + 7, size + 8, size + 9, size + 20, len(b) - 1, len(b), len(b) + 1, len(b) + 9} {
			if there < size {
				continue
			}
			body := append(bytes.Clone(b), counted(10, 77)...)[:min(there, len(b)+10)]
			got, e := About(about(body))
			want := p
			want.Body = p.Body[:min(max(there-size, 0), len(p.Body))]
			switch {
			case there-size < 8 && there < len(b):
				if e != api.ErrShort || !ip.Same(got, api.IP{}) || got.Body != nil || got.Opts != nil {
					t.Errorf("%d of %d bytes: %+v, %d", there, len(b), got, e)
				}
			case e != api.OK || !ip.Same(got, want):
				t.Errorf("%d of %d bytes: %+v, %d instead of %+v", there, len(b), got, e, want)
			}
		}
	}
}

// P6.2: all errors have it, whatever their code and Rest; nothing else has.
func TestAboutKinds(t *testing.T) {
	b := packed(t, packet())
	for kind := -2; kind < 300; kind++ {
		for _, m := range []api.ICMP{{Type: kind, Body: b}, {Type: kind, Code: 4, Rest: 0xffffffff, Body: b}, {Type: kind, Code: 999, Body: b}} {
			p, e := About(m)
			_, _, isAnError := kindOf(kind)
			if isAnError && (e != api.OK || !ip.Same(p, packet())) || !isAnError && (e != api.ErrArg || !ip.Same(p, api.IP{})) {
				t.Errorf("type %d: %+v, %d", kind, p, e)
			}
		}
	}
}

// P6.2: MF, DF and Off are told as they stand, also where they fit no packet.
func TestAboutPieces(t *testing.T) {
	b := packed(t, withPacket(func(p *api.IP) { p.DF = false }))
	for word := range 65536 {
		p, e := About(about(resealed(b, 6, word)))
		want := withPacket(func(p *api.IP) {
			p.DF, p.MF, p.Off = word>>14&1 == 1, word>>13&1 == 1, word%8192*8
		})
		if e != api.OK || !ip.Same(p, want) {
			t.Fatalf("%04x: %+v, %d", word, p, e)
		}
	}
	// A piece whose body has no bytes, or not eights of them.
	for _, n := range []int{0, 3, 8, 9} {
		whole := resealed(resealed(b, 6, 0x2001), 2, 24+n)
		if p, e := About(about(whole)); e != api.OK || !p.MF || p.Off != 8 || len(p.Body) != n {
			t.Errorf("%d bytes: %+v, %d", n, p, e)
		}
	}
}

// P6.2: bodies that tell of no packet, one error each.
func TestAboutErrors(t *testing.T) {
	b := packed(t, packet())
	bare := packed(t, withPacket(func(p *api.IP) { p.Opts = nil }))
	set := func(b []byte, at int, x byte) []byte { c := bytes.Clone(b); c[at] = x; return c }
	for i, c := range []struct {
		body []byte
		want api.Errno
	}{
		{nil, api.ErrShort},
		{[]byte{}, api.ErrShort},
		{b[:1], api.ErrShort},
		{b[:19], api.ErrShort},
		{bare[:19], api.ErrShort},
		{make([]byte, 19), api.ErrShort},
		{make([]byte, 20), api.ErrHead},
		{set(b, 0, 0x56), api.ErrHead},
		{set(b, 0, 0x36), api.ErrHead},
		{set(b, 0, 0x66), api.ErrHead},
		{set(b, 0, 0x44), api.ErrHead},
		{set(b, 0, 0x40), api.ErrHead},
		{set(b, 0, 0x4f), api.ErrHead},
		{b[:20], api.ErrHead},
		{b[:23], api.ErrHead},
		{resealed(b, 2, 23), api.ErrLen},
		{resealed(b, 2, 0), api.ErrLen},
		{resealed(bare, 2, 19), api.ErrLen},
		{checked(b, 2, 23), api.ErrLen},
		{set(b, 1, 4), api.ErrSum},
		{set(b, 10, b[10]+1), api.ErrSum},
		{set(b, 11, b[11]-1), api.ErrSum},
		{set(b, 20, 0), api.ErrSum},
		{set(b, 23, 1), api.ErrSum},
		{set(bare, 19, 5), api.ErrSum},
		{set(bare, 0, 0x46), api.ErrSum},
		{b[:24], api.ErrShort},
		{b[:25], api.ErrShort},
		{b[:31], api.ErrShort},
		{bare[:27], api.ErrShort},
		{resealed(b, 2, 25)[:24], api.ErrShort},
		{resealed(b, 2, 31)[:30], api.ErrShort},
		{resealed(b, 2, 65535)[:31], api.ErrShort},
	} {
		p, e := About(about(c.body))
		if e != c.want || !ip.Same(p, api.IP{}) || p.Opts != nil || p.Body != nil {
			t.Errorf("%d: %+v, %d instead of %d", i, p, e, c.want)
		}
	}
	for i, c := range [][]byte{
		b, b[:32], b[:33], bare[:28], resealed(b, 2, 24)[:24], resealed(b, 2, 25)[:25], resealed(b, 2, 24), resealed(b, 2, 65535)[:32],
		// Its body's bytes are under no sum here.
		set(b, 24, 99), set(b, 43, 99),
	} {
		if p, e := About(about(c)); e != api.OK {
			t.Errorf("%d: %+v, %d", i, p, e)
		}
	}
}

// P6.2: of several errors the first is told.
func TestAboutOrder(t *testing.T) {
	m := about(packed(t, packet())[:31])
	for i, c := range []struct {
		fault func()
		want  api.Errno
	}{
		{func() {}, api.ErrShort},
		{func() { m.Body = checked(m.Body, 10, 7) }, api.ErrSum},
		{func() { m.Body = checked(m.Body, 2, 23) }, api.ErrLen},
		{func() { m.Body = m.Body[:23] }, api.ErrHead},
		{func() { m.Body = m.Body[:19] }, api.ErrShort},
		{func() { m.Type = 8 }, api.ErrArg},
	} {
		c.fault()
		if p, e := About(m); e != c.want {
			t.Errorf("%d: %+v, %d instead of %d", i, p, e, c.want)
		}
	}
}

// P6.2: what is handed in stays, its spare room too, and the packet's options and body are new memory.
func TestAboutLeaves(t *testing.T) {
	b := append(packed(t, packet()), 1, 2, 3, 4)
	before := bytes.Clone(b)
	p, _ := About(about(b[:44]))
	_, _ = append(p.Opts, 0xee), append(p.Body, 0xee)
	if !ip.Same(p, packet()) {
		t.Errorf("%+v", p)
	}
	clear(p.Opts)
	clear(p.Body)
	if !bytes.Equal(b, before) {
		t.Errorf("the bytes were changed to % x", b)
	}
	p, _ = About(about(b[:44]))
	clear(b)
	if !ip.Same(p, packet()) {
		t.Errorf("changed to %+v", p)
	}
}

// P6.3: the head, and the first eight bytes behind it.
func TestTell(t *testing.T) {
	for _, p := range []api.IP{
		packet(), withPacket(func(p *api.IP) { p.Opts = nil }), {}, {Opts: counted(40, 1), Body: counted(65475, 1)},
		{Body: counted(1, 1)}, {Body: counted(7, 1)}, {Body: counted(8, 1)}, {Body: counted(9, 1)}, {Body: counted(65515, 1)},
		// A first piece.
		{MF: true, Body: counted(16, 1)},
	} {
		b := packed(t, p)
		for _, behind := range [][]byte{nil, {7}, counted(20, 9)} {
			for _, c := range []struct {
				kind, code int
				rest       uint32
			}{{3, 4, 1400}, {4, 0, 0}, {11, 255, 0xffffffff}, {12, 0, 20 << 24}} {
				m, e := Tell(c.kind, c.code, c.rest, append(bytes.Clone(b), behind...))
				if e != api.OK {
					t.Errorf("%+v: %d", p, e)
				}
				asItWas(t, m, api.ICMP{Type: c.kind, Code: c.code, Rest: c.rest, Body: b[:min(len(b), 20+len(p.Opts)+8)]})
			}
		}
	}
}

// P6.3: it would be no error, or its code is none.
func TestTellErrArg(t *testing.T) {
	b := packed(t, packet())
	for kind := -2; kind < 300; kind++ {
		_, _, isAnError := kindOf(kind)
		if m, e := Tell(kind, 0, 0, b); isAnError != (e == api.OK) || !isAnError && (e != api.ErrArg || !Same(m, api.ICMP{})) {
			t.Errorf("type %d: %+v, %d", kind, m, e)
		}
	}
	for _, code := range []int{-1, 256, 257, -256, math.MaxInt, math.MinInt} {
		for _, kind := range []int{3, 4, 11, 12} {
			if m, e := Tell(kind, code, 5, b); e != api.ErrArg || !Same(m, api.ICMP{}) || m.Body != nil {
				t.Errorf("code %d: %+v, %d", code, m, e)
			}
		}
	}
	for code := range 256 {
		if m, e := Tell(3, code, 0, b); e != api.OK || m.Code != code {
			t.Errorf("code %d: %+v, %d", code, m, e)
		}
	}
}

// P6.3: bytes that are no packet have layer 3's errors.
func TestTellOfNoPacket(t *testing.T) {
	b := packed(t, packet())
	for i, c := range []struct {
		b    []byte
		want api.Errno
	}{
		{nil, api.ErrShort}, {b[:19], api.ErrShort}, {b[:20], api.ErrHead}, {checked(b, 0, 0x5600), api.ErrHead},
		{b[:43], api.ErrLen}, {b[:32], api.ErrLen}, {resealed(b, 2, 23), api.ErrLen},
		{checked(b, 10, 1), api.ErrSum}, {resealed(b, 6, 0x8000), api.ErrFrag}, {resealed(b, 6, 0x2000), api.ErrFrag}, {resealed(b, 6, 0x1fff), api.ErrFrag},
	} {
		if m, e := Tell(3, 0, 0, c.b); e != c.want || !Same(m, api.ICMP{}) || m.Body != nil {
			t.Errorf("%d: %+v, %d instead of %d", i, m, e, c.want)
		}
	}
}

// P6.3: nothing is told of a piece that is not the first, nor of an error.
func TestTellErrState(t *testing.T) {
	kinds := []api.IP{
		withPacket(func(p *api.IP) { p.Off = 8 }),
		withPacket(func(p *api.IP) { p.Off = 65472 }),
		withPacket(func(p *api.IP) { p.Off, p.MF, p.Body = 16, true, counted(8, 1) }),
		withPacket(func(p *api.IP) { p.Proto, p.Off = 1, 8 }),
	}
	for _, kind := range []byte{3, 4, 11, 12} {
		kinds = append(kinds,
			withPacket(func(p *api.IP) { p.Proto, p.Body[0] = 1, kind }),
			withPacket(func(p *api.IP) { p.Proto, p.Body = 1, []byte{kind} }),
			withPacket(func(p *api.IP) { p.Proto, p.Opts, p.Body = 1, nil, slowly(api.ICMP{Type: int(kind)}) }),
			withPacket(func(p *api.IP) { p.Proto, p.MF, p.Body = 1, true, slowly(api.ICMP{Type: int(kind)}) }))
	}
	for i, p := range kinds {
		if m, e := Tell(11, 0, 0, packed(t, p)); e != api.ErrState || !Same(m, api.ICMP{}) || m.Body != nil {
			t.Errorf("%d: %+v, %d", i, m, e)
		}
	}
	for kind := range 256 {
		_, _, isAnError := kindOf(kind)
		b := packed(t, withPacket(func(p *api.IP) { p.Proto, p.Body = 1, []byte{byte(kind), 3, 3} }))
		if _, e := Tell(3, 0, 0, b); isAnError != (e == api.ErrState) || !isAnError && e != api.OK {
			t.Errorf("about type %d: %d", kind, e)
		}
		// Of another protocol the first byte is no type.
		for _, proto := range []int{0, 2, 6, 17, 255} {
			b := packed(t, withPacket(func(p *api.IP) { p.Proto, p.Body = proto, []byte{byte(kind)} }))
			if _, e := Tell(3, 0, 0, b); e != api.OK {
				t.Errorf("about protocol %d: %d", proto, e)
			}
		}
	}
	// A body without a byte is no error's.
	if m, e := Tell(3, 0, 0, packed(t, withPacket(func(p *api.IP) { p.Proto, p.Body = 1, nil }))); e != api.OK || len(m.Body) != 24 {
		t.Errorf("%+v, %d", m, e)
	}
}

// P6.3: of several errors the first is told.
func TestTellOrder(t *testing.T) {
	piece := packed(t, withPacket(func(p *api.IP) { p.Off = 8 }))
	for i, c := range []struct {
		kind, code int
		b          []byte
		want       api.Errno
	}{
		{8, 0, piece, api.ErrArg}, {3, 256, piece, api.ErrArg}, {8, 0, nil, api.ErrArg}, {3, -1, nil, api.ErrArg},
		{3, 0, piece[:19], api.ErrShort}, {3, 0, checked(piece, 10, 1), api.ErrSum}, {3, 0, piece, api.ErrState},
	} {
		if m, e := Tell(c.kind, c.code, 0, c.b); e != c.want {
			t.Errorf("%d: %+v, %d instead of %d", i, m, e, c.want)
		}
	}
}

// P6.3: what is handed in stays, its spare room too, and the error's body is new memory.
func TestTellLeaves(t *testing.T) {
	b := packed(t, packet())
	before := bytes.Clone(b)
	m, _ := Tell(3, 1, 0, b)
	_ = append(m.Body, 0xee, 0xee)
	clear(m.Body)
	if !bytes.Equal(b, before) {
		t.Errorf("the bytes were changed to % x", b)
	}
	m, _ = Tell(3, 1, 0, b)
	clear(b)
	asItWas(t, m, about(before[:32]))
}

// P6.4: what is put is parsed as it was, and what is parsed is put as it was.
func TestPutThenParse(t *testing.T) {
	for _, m := range someMessages() {
		b, e := Put(m)
		if e != api.OK {
			t.Fatalf("%+v: %d", m, e)
		}
		got, e := Parse(b)
		if e != api.OK || !Same(m, got) {
			t.Errorf("%+v is parsed as %+v, %d", m, got, e)
		}
		asItWas(t, got, m)
		if again, e := Put(got); e != api.OK || !bytes.Equal(again, b) {
			t.Errorf("% x is put as % x, %d", b, again, e)
		}
	}
	// The one exception: 65535 is put as 0.
	b := []byte{255, 255, 255, 255, 0, 0, 0, 0}
	m, _ := Parse(b)
	if again, e := Put(m); e != api.OK || !bytes.Equal(again, checked(b, 2, 0)) {
		t.Errorf("% x is put as % x, %d", b, again, e)
	}
}

// P6.4: what is told is about the packet of its bytes, also when it went as bytes itself.
func TestTellThenAbout(t *testing.T) {
	chance := rand.New(rand.NewSource(64))
	for range 3000 {
		p := api.IP{
			TOS: chance.Intn(256), ID: chance.Intn(65536), DF: chance.Intn(2) == 0, TTL: chance.Intn(256), Proto: 2 + chance.Intn(254),
			Src: chance.Uint32(), Dst: chance.Uint32(), Opts: make([]byte, 4*chance.Intn(11)), Body: make([]byte, chance.Intn(40)),
		}
		chance.Read(p.Opts)
		chance.Read(p.Body)
		p.MF = len(p.Body) > 0 && len(p.Body)%8 == 0 && chance.Intn(2) == 0
		told, e := Tell([]int{3, 4, 11, 12}[chance.Intn(4)], chance.Intn(256), chance.Uint32(), append(packed(t, p), make([]byte, chance.Intn(3))...))
		if e != api.OK {
			t.Fatalf("%+v: %d", p, e)
		}
		b, e := Put(told)
		if e != api.OK {
			t.Fatalf("%+v: %d", told, e)
		}
		m, e := Parse(b)
		if e != api.OK || !Same(m, told) {
			t.Fatalf("%+v isn't %+v, %d", m, told, e)
		}
		p.Body = p.Body[:min(len(p.Body), 8)]
		if got, e := About(m); e != api.OK || !ip.Same(got, p) {
			t.Errorf("%+v isn't %+v, %d", got, p, e)
		}
	}
}

// P6.2: any body of an error has an answer.
func TestAboutOfAnything(t *testing.T) {
	chance := rand.New(rand.NewSource(62))
	seen := map[api.Errno]int{}
	for range 30000 {
		b := make([]byte, chance.Intn(70))
		chance.Read(b)
		if len(b) > 0 {
			b[0] = 0x45 + byte(chance.Intn(5)) - byte(chance.Intn(2))
		}
		if len(b) >= 20 && chance.Intn(4) != 0 {
			b = checked(b, 2, chance.Intn(80))
			if size := int(b[0]&15) * 4; size <= len(b) && size >= 20 {
				b = append(sealed(b[:size], 10), b[size:]...)
			}
		}
		p, e := About(about(b))
		seen[e]++
		if e != api.OK && !ip.Same(p, api.IP{}) {
			t.Errorf("% x: %+v beside %d", b, p, e)
		}
	}
	for _, e := range []api.Errno{api.OK, api.ErrShort, api.ErrHead, api.ErrLen, api.ErrSum} {
		if seen[e] < 100 {
			t.Errorf("%d was answered %d times", e, seen[e])
		}
	}
}
