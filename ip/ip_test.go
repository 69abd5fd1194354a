package ip

import (
	"bytes"
	"math"
	"math/rand"
	"testing"

	"casemate/api"
)

// sample is a packet that has something in each of its parts, and may be put.
func sample() api.IP {
	return api.IP{
		TOS: 0x12, ID: 0x3456, DF: true, MF: true, Off: 0x1238, TTL: 0x78, Proto: 0x9a,
		Src: 0x0a0b0c0d, Dst: 0xc0a80105,
		Opts: []byte{1, 2, 3, 4, 5, 6, 7, 8}, Body: []byte{11, 12, 13, 14, 15, 16, 17, 18},
	}
}

// with is the sample, changed.
func with(change func(p *api.IP)) api.IP {
	p := sample()
	change(&p)
	return p
}

// whole is a packet that is no piece, with so many bytes of options and of a body.
func whole(opts, body int) api.IP {
	return api.IP{TTL: 64, Proto: 17, Src: 0x0a000001, Dst: 0x08080808, Opts: counted(opts, 3), Body: counted(body, 5)}
}

// counted are as many bytes as are asked, no two beside one another alike.
func counted(n, step int) []byte {
	b := make([]byte, n)
	for i := range b {
		b[i] = byte((i + 1) * step)
	}
	return b
}

// sumOf adds the words of an even number of bytes one by one, apart from csum.
func sumOf(b []byte) int {
	sum := 0
	for i := 0; i < len(b); i += 2 {
		sum += int(b[i])<<8 | int(b[i+1])
		if sum > 65535 {
			sum -= 65535
		}
	}
	return sum
}

// sealed is a copy of a packet's bytes with the check sum that its head asks for.
func sealed(b []byte) []byte {
	c := bytes.Clone(b)
	c[10], c[11] = 0, 0
	check := 65535 - sumOf(c[:int(c[0]%16)*4])
	c[10], c[11] = byte(check>>8), byte(check)
	return c
}

// slowly writes a packet out bit by bit, apart from Put.
func slowly(p api.IP) []byte {
	var b []byte
	held, bits := 0, 0
	push := func(n, width int) {
		for i := width - 1; i >= 0; i-- {
			held, bits = held*2+n>>i&1, bits+1
			if bits == 8 {
				b, held, bits = append(b, byte(held)), 0, 0
			}
		}
	}
	flag := func(on bool) {
		if on {
			push(1, 1)
		} else {
			push(0, 1)
		}
	}
	push(4, 4)
	push(5+len(p.Opts)/4, 4)
	push(p.TOS, 8)
	push(20+len(p.Opts)+len(p.Body), 16)
	push(p.ID, 16)
	push(0, 1)
	flag(p.DF)
	flag(p.MF)
	push(p.Off/8, 13)
	push(p.TTL, 8)
	push(p.Proto, 8)
	push(0, 16)
	push(int(p.Src), 32)
	push(int(p.Dst), 32)
	b = append(b, p.Opts...)
	return append(sealed(b), p.Body...)
}

// somePackets may all be put: each part at its edges, and many by the way.
func somePackets() []api.IP {
	list := []api.IP{
		{}, sample(), whole(0, 0), whole(0, 1), whole(40, 0), whole(40, 33), whole(0, 65515), whole(40, 65475),
		{TOS: 255, ID: 65535, DF: true, TTL: 255, Proto: 255, Src: 1<<32 - 1, Dst: 1<<32 - 1},
		{MF: true, Body: counted(8, 1)},
		{MF: true, Body: counted(65512, 1)},
		{Off: 8},
		{Off: 65512, Body: []byte{1, 2, 3}},
		{Off: 65512, DF: true, Opts: nil},
		{Off: 65504, MF: true, Body: counted(8, 9)},
		{Off: 32768, Opts: counted(4, 7), Body: counted(32743, 1)},
	}
	chance := rand.New(rand.NewSource(3))
	for range 400 {
		list = append(list, drawn(chance))
	}
	return list
}

// drawn is a packet that may be put, of parts that are drawn.
func drawn(chance *rand.Rand) api.IP {
	p := api.IP{
		TOS: chance.Intn(256), ID: chance.Intn(65536), DF: chance.Intn(2) == 0, MF: chance.Intn(2) == 0,
		TTL: chance.Intn(256), Proto: chance.Intn(256), Src: chance.Uint32(), Dst: chance.Uint32(),
		Opts: make([]byte, 4*chance.Intn(11)), Body: make([]byte, 8*(1+chance.Intn(20))),
	}
	if !p.MF {
		p.Body = make([]byte, chance.Intn(160))
	}
	if chance.Intn(3) > 0 {
		p.Off = 8 * chance.Intn(8100)
	}
	chance.Read(p.Opts)
	chance.Read(p.Body)
	return p
}

// asItWas fails if a packet isn't the one that it was, part by part, apart from Same.
func asItWas(t *testing.T, got, want api.IP) {
	t.Helper()
	if got.TOS != want.TOS || got.ID != want.ID || got.DF != want.DF || got.MF != want.MF || got.Off != want.Off ||
		got.TTL != want.TTL || got.Proto != want.Proto || got.Src != want.Src || got.Dst != want.Dst ||
		string(got.Opts) != string(want.Opts) || string(got.Body) != string(want.Body) {
		t.Errorf("%+v isn't %+v", got, want)
	}
}

// isNothing fails if a packet isn't the zero value.
func isNothing(t *testing.T, p api.IP) {
	t.Helper()
	asItWas(t, p, api.IP{})
}

// P3.1
func TestPut(t *testing.T) {
	for i, c := range []struct {
		p    api.IP
		want []byte
	}{
		{api.IP{}, []byte{0x45, 0, 0, 20, 0, 0, 0, 0, 0, 0, 0xba, 0xeb, 0, 0, 0, 0, 0, 0, 0, 0}},
		{
			api.IP{ID: 0, DF: true, TTL: 64, Proto: 17, Src: 0xc0a80001, Dst: 0xc0a800c7, Body: make([]byte, 95)},
			append([]byte{0x45, 0, 0, 0x73, 0, 0, 0x40, 0, 0x40, 0x11, 0xb8, 0x61, 0xc0, 0xa8, 0, 1, 0xc0, 0xa8, 0, 0xc7}, make([]byte, 95)...),
		},
		{
			sample(),
			[]byte{0x47, 0x12, 0, 36, 0x34, 0x56, 0x62, 0x47, 0x78, 0x9a, 0xc1, 0xb7, 10, 11, 12, 13, 192, 168, 1, 5,
				1, 2, 3, 4, 5, 6, 7, 8, 11, 12, 13, 14, 15, 16, 17, 18},
		},
		{
			api.IP{MF: true, Off: 8, Body: make([]byte, 8)},
			[]byte{0x45, 0, 0, 28, 0, 0, 0x20, 1, 0, 0, 0x9a, 0xe2, 0, 0, 0, 0, 0, 0, 0, 0, 0, 0, 0, 0, 0, 0, 0, 0},
		},
		{
			// A head whose other words have the sum 65535: the check sum is 0.
			api.IP{ID: 0xbaeb},
			[]byte{0x45, 0, 0, 20, 0xba, 0xeb, 0, 0, 0, 0, 0, 0, 0, 0, 0, 0, 0, 0, 0, 0},
		},
	} {
		b, e := Put(c.p)
		if e != api.OK || !bytes.Equal(b, c.want) {
			t.Errorf("%d: % x, %d instead of % x", i, b, e, c.want)
		}
	}
}

// P3.1: each part stands in its place, at its edges and between.
func TestPutSlowly(t *testing.T) {
	for _, p := range somePackets() {
		b, e := Put(p)
		if e != api.OK || !bytes.Equal(b, slowly(p)) {
			t.Errorf("%+v is put as % x, %d", p, b, e)
		}
	}
	for bit := range 32 {
		for _, p := range []api.IP{{Src: 1 << bit}, {Dst: 1 << bit}, {ID: 1 << (bit / 2)}, {TOS: 1 << (bit / 4)}, {TTL: 1 << (bit / 4)}, {Proto: 1 << (bit / 4)}, {Off: 8 << (bit * 13 / 32)}} {
			if b, e := Put(p); e != api.OK || !bytes.Equal(b, slowly(p)) {
				t.Errorf("%+v is put as % x, %d", p, b, e)
			}
		}
	}
}

// P3.1: what may just be put.
func TestPutEdges(t *testing.T) {
	for i, p := range []api.IP{
		with(func(p *api.IP) { p.TOS = 0 }),
		with(func(p *api.IP) { p.TOS = 255 }),
		with(func(p *api.IP) { p.TTL = 0 }),
		with(func(p *api.IP) { p.TTL = 255 }),
		with(func(p *api.IP) { p.Proto = 0 }),
		with(func(p *api.IP) { p.Proto = 255 }),
		with(func(p *api.IP) { p.ID = 0 }),
		with(func(p *api.IP) { p.ID = 65535 }),
		with(func(p *api.IP) { p.Off = 0 }),
		with(func(p *api.IP) { p.Off = 8 }),
		with(func(p *api.IP) { p.Opts = nil }),
		with(func(p *api.IP) { p.Opts = make([]byte, 4) }),
		with(func(p *api.IP) { p.Opts = make([]byte, 40) }),
		with(func(p *api.IP) { p.MF, p.Body = false, nil }),
		with(func(p *api.IP) { p.MF, p.Body = false, make([]byte, 9) }),
		with(func(p *api.IP) { p.Body = make([]byte, 16) }),
		// Head and body are 65535 bytes.
		{Body: make([]byte, 65515)},
		{Opts: make([]byte, 40), Body: make([]byte, 65475)},
		// Head, Off and body together are 65535 bytes, and just below.
		{Off: 65512, Body: make([]byte, 3)},
		{Off: 65512, Opts: nil},
		{Off: 65504, Opts: make([]byte, 4), Body: make([]byte, 7)},
		{Off: 65472, Opts: make([]byte, 40), Body: make([]byte, 3)},
		{Off: 65504, MF: true, Body: make([]byte, 8)},
		{Off: 8, Body: make([]byte, 65507)},
		{MF: true, Body: make([]byte, 65512)},
	} {
		if b, e := Put(p); e != api.OK || len(b) != 20+len(p.Opts)+len(p.Body) {
			t.Errorf("%d: %d bytes, %d", i, len(b), e)
		}
	}
}

// P3.1: what may not be put.
func TestPutErrors(t *testing.T) {
	for i, p := range []api.IP{
		with(func(p *api.IP) { p.TOS = -1 }),
		with(func(p *api.IP) { p.TOS = 256 }),
		with(func(p *api.IP) { p.TOS = math.MaxInt }),
		with(func(p *api.IP) { p.TOS = math.MinInt }),
		with(func(p *api.IP) { p.TTL = -1 }),
		with(func(p *api.IP) { p.TTL = 256 }),
		with(func(p *api.IP) { p.Proto = -1 }),
		with(func(p *api.IP) { p.Proto = 256 }),
		with(func(p *api.IP) { p.ID = -1 }),
		with(func(p *api.IP) { p.ID = 65536 }),
		with(func(p *api.IP) { p.ID = math.MinInt }),
		with(func(p *api.IP) { p.Off = -8 }),
		with(func(p *api.IP) { p.Off = -1 }),
		with(func(p *api.IP) { p.Off = 1 }),
		with(func(p *api.IP) { p.Off = 4 }),
		with(func(p *api.IP) { p.Off = 7 }),
		with(func(p *api.IP) { p.Off = 9 }),
		with(func(p *api.IP) { p.Off = 65536 }),
		with(func(p *api.IP) { p.Off = math.MaxInt - 7 }),
		with(func(p *api.IP) { p.Off = math.MaxInt }),
		with(func(p *api.IP) { p.Off = math.MinInt }),
		with(func(p *api.IP) { p.Opts = make([]byte, 1) }),
		with(func(p *api.IP) { p.Opts = make([]byte, 2) }),
		with(func(p *api.IP) { p.Opts = make([]byte, 3) }),
		with(func(p *api.IP) { p.Opts = make([]byte, 5) }),
		with(func(p *api.IP) { p.Opts = make([]byte, 39) }),
		with(func(p *api.IP) { p.Opts = make([]byte, 41) }),
		with(func(p *api.IP) { p.Opts = make([]byte, 44) }),
		with(func(p *api.IP) { p.Opts = make([]byte, 400) }),
		// More pieces behind it.
		with(func(p *api.IP) { p.Body = nil }),
		with(func(p *api.IP) { p.Body = []byte{} }),
		with(func(p *api.IP) { p.Body = make([]byte, 1) }),
		with(func(p *api.IP) { p.Body = make([]byte, 7) }),
		with(func(p *api.IP) { p.Body = make([]byte, 9) }),
		with(func(p *api.IP) { p.Body = make([]byte, 12) }),
		{MF: true},
		// Head and body are above 65535 bytes.
		{Body: make([]byte, 65516)},
		{Opts: make([]byte, 40), Body: make([]byte, 65476)},
		{Opts: make([]byte, 4), Body: make([]byte, 65515)},
		{Body: make([]byte, 1<<20)},
		{MF: true, Body: make([]byte, 65520)},
		// And so are head, Off and body.
		{Off: 65512, Body: make([]byte, 4)},
		{Off: 65520},
		{Off: 65528},
		{Off: 65528, Body: make([]byte, 8)},
		{Off: 65504, Opts: make([]byte, 4), Body: make([]byte, 8)},
		{Off: 65472, Opts: make([]byte, 40), Body: make([]byte, 4)},
		{Off: 65512, MF: true, Body: make([]byte, 8)},
		{Off: 8, Body: make([]byte, 65508)},
		// Off alone would fit beside what it lacks.
		{Off: -8, Body: make([]byte, 65520)},
	} {
		if b, e := Put(p); e != api.ErrArg || b != nil {
			t.Errorf("%d: %d bytes, %d", i, len(b), e)
		}
	}
}

// P3.1: what is handed in stays, its spare room too, and the answer is new memory.
func TestPutLeaves(t *testing.T) {
	opts, body := counted(12, 3), counted(20, 5)
	p := api.IP{Opts: opts[2:6], Body: body[3:11], MF: true}
	b, e := Put(p)
	if e != api.OK {
		t.Fatal(e)
	}
	for i := range b {
		b[i] = 0xee
	}
	_ = append(b, 0xee)
	if !bytes.Equal(opts, counted(12, 3)) || !bytes.Equal(body, counted(20, 5)) {
		t.Errorf("the options are % x, the body is % x", opts, body)
	}
}

// P3.1
func TestSame(t *testing.T) {
	if !Same(sample(), sample()) || !Same(api.IP{}, api.IP{}) {
		t.Error("a packet isn't the same as itself")
	}
	// A list is nil or empty alike, and spare room doesn't count.
	if !Same(api.IP{Opts: []byte{}, Body: nil}, api.IP{Opts: nil, Body: []byte{}}) {
		t.Error("nil and empty are apart")
	}
	if !Same(api.IP{Opts: make([]byte, 4, 9), Body: make([]byte, 2, 8)}, api.IP{Opts: make([]byte, 4), Body: make([]byte, 2)}) {
		t.Error("spare room counts")
	}
	for i, p := range []api.IP{
		with(func(p *api.IP) { p.TOS++ }),
		with(func(p *api.IP) { p.TOS += 256 }),
		with(func(p *api.IP) { p.ID++ }),
		with(func(p *api.IP) { p.ID += 65536 }),
		with(func(p *api.IP) { p.DF = false }),
		with(func(p *api.IP) { p.MF = false }),
		with(func(p *api.IP) { p.Off += 8 }),
		with(func(p *api.IP) { p.Off++ }),
		with(func(p *api.IP) { p.TTL-- }),
		with(func(p *api.IP) { p.Proto++ }),
		with(func(p *api.IP) { p.Src++ }),
		with(func(p *api.IP) { p.Src ^= 1 << 31 }),
		with(func(p *api.IP) { p.Dst++ }),
		with(func(p *api.IP) { p.Dst ^= 1 << 31 }),
		with(func(p *api.IP) { p.Src, p.Dst = p.Dst, p.Src }),
		with(func(p *api.IP) { p.Opts[0]++ }),
		with(func(p *api.IP) { p.Opts[7]++ }),
		with(func(p *api.IP) { p.Opts = p.Opts[:4] }),
		with(func(p *api.IP) { p.Opts = nil }),
		with(func(p *api.IP) { p.Opts = append(p.Opts, 0) }),
		with(func(p *api.IP) { p.Body[0]++ }),
		with(func(p *api.IP) { p.Body[7]++ }),
		with(func(p *api.IP) { p.Body = p.Body[:7] }),
		with(func(p *api.IP) { p.Body = []byte{} }),
		with(func(p *api.IP) { p.Body = append(p.Body, 0) }),
		with(func(p *api.IP) { p.Opts, p.Body = p.Body, p.Opts }),
		// The same bytes, but not in the same parts.
		with(func(p *api.IP) { p.Opts, p.Body = p.Opts[:4], append([]byte{5, 6, 7, 8}, p.Body...) }),
	} {
		if Same(p, sample()) || Same(sample(), p) {
			t.Errorf("%d: the same", i)
		}
		if !Same(p, p) {
			t.Errorf("%d: not the same as itself", i)
		}
	}
}

// P3.1
func TestPiece(t *testing.T) {
	for i, c := range []struct {
		p    api.IP
		want bool
	}{
		{api.IP{}, false},
		{whole(40, 100), false},
		{api.IP{DF: true}, false},
		{api.IP{MF: true}, true},
		{api.IP{Off: 8}, true},
		{api.IP{Off: 65528}, true},
		{api.IP{MF: true, Off: 8}, true},
		// What may not be put is asked alike.
		{api.IP{Off: 1}, true},
		{api.IP{Off: -8}, true},
		{api.IP{Off: math.MinInt}, true},
		{with(func(p *api.IP) { p.MF, p.Off = false, 0 }), false},
		{with(func(p *api.IP) { p.MF = false }), true},
		{with(func(p *api.IP) { p.Off = 0 }), true},
	} {
		if Piece(c.p) != c.want {
			t.Errorf("%d: %v", i, !c.want)
		}
	}
}

// P3.2
func TestParse(t *testing.T) {
	for i, c := range []struct {
		b    []byte
		want api.IP
	}{
		{[]byte{0x45, 0, 0, 20, 0, 0, 0, 0, 0, 0, 0xba, 0xeb, 0, 0, 0, 0, 0, 0, 0, 0}, api.IP{}},
		{
			[]byte{0x47, 0x12, 0, 36, 0x34, 0x56, 0x62, 0x47, 0x78, 0x9a, 0xc1, 0xb7, 10, 11, 12, 13, 192, 168, 1, 5,
				1, 2, 3, 4, 5, 6, 7, 8, 11, 12, 13, 14, 15, 16, 17, 18},
			sample(),
		},
		{sealed([]byte{0x45, 0, 0, 21, 0, 0, 0x40, 0, 9, 6, 0, 0, 1, 2, 3, 4, 5, 6, 7, 8, 99}),
			api.IP{DF: true, TTL: 9, Proto: 6, Src: 0x01020304, Dst: 0x05060708, Body: []byte{99}}},
		{sealed([]byte{0x45, 0, 0, 20, 0, 0, 0x1f, 0xf5, 0, 0, 0, 0, 0, 0, 0, 0, 0, 0, 0, 0}), api.IP{Off: 65448}},
		{sealed([]byte{0x45, 0, 0, 20, 0, 0, 0x1f, 0xfd, 0, 0, 0, 0, 0, 0, 0, 0, 0, 0, 0, 0}), api.IP{Off: 65512}},
		// What stands behind the whole length doesn't count.
		{append(sealed([]byte{0x45, 0, 0, 20, 0, 0, 0, 0, 0, 0, 0, 0, 0, 0, 0, 0, 0, 0, 0, 0}), 1, 2, 3), api.IP{}},
		{append(sealed([]byte{0x45, 0, 0, 22, 0, 0, 0, 0, 0, 0, 0, 0, 0, 0, 0, 0, 0, 0, 0, 0, 8, 9}), 1), api.IP{Body: []byte{8, 9}}},
		{sealed(append([]byte{0x4f, 0, 0, 60, 0, 0, 0, 0, 0, 0, 0, 0, 0, 0, 0, 0, 0, 0, 0, 0}, counted(40, 6)...)), api.IP{Opts: counted(40, 6)}},
		// The body isn't summed.
		{append([]byte{0x45, 0, 0, 22, 0, 0, 0, 0, 0, 0, 0xba, 0xe9, 0, 0, 0, 0, 0, 0, 0, 0}, 0xff, 0x77), api.IP{Body: []byte{0xff, 0x77}}},
	} {
		p, e := Parse(c.b)
		if e != api.OK {
			t.Errorf("%d: %d", i, e)
		}
		asItWas(t, p, c.want)
	}
}

// P3.2: bytes that are none, one error each.
func TestParseErrors(t *testing.T) {
	set := func(b []byte, at int, x byte) []byte { c := bytes.Clone(b); c[at] = x; return c }
	plainOne, long := slowly(whole(0, 8)), slowly(whole(40, 8))
	for i, c := range []struct {
		b    []byte
		want api.Errno
	}{
		{nil, api.ErrShort},
		{[]byte{}, api.ErrShort},
		{[]byte{0x45}, api.ErrShort},
		{plainOne[:19], api.ErrShort},
		// The first four bits, and the length of the head.
		{set(plainOne, 0, 0x35), api.ErrHead},
		{set(plainOne, 0, 0x55), api.ErrHead},
		{set(plainOne, 0, 0x65), api.ErrHead},
		{set(plainOne, 0, 0x05), api.ErrHead},
		{set(plainOne, 0, 0xc5), api.ErrHead},
		{set(plainOne, 0, 0x44), api.ErrHead},
		{set(plainOne, 0, 0x40), api.ErrHead},
		{set(plainOne, 0, 0x48), api.ErrHead},
		{set(plainOne, 0, 0x4f), api.ErrHead},
		{plainOne[:20], api.ErrLen},
		{set(plainOne[:20], 0, 0x46), api.ErrHead},
		{long[:59], api.ErrHead},
		{long[:20], api.ErrHead},
		// The whole length.
		{long[:60], api.ErrLen},
		{long[:67], api.ErrLen},
		{set(plainOne, 3, 0), api.ErrLen},
		{set(plainOne, 3, 19), api.ErrLen},
		{set(plainOne, 3, 29), api.ErrLen},
		{set(plainOne, 2, 1), api.ErrLen},
		{set(long, 3, 59), api.ErrLen},
		{set(long, 3, 20), api.ErrLen},
		{set(long, 3, 69), api.ErrLen},
		{set(long, 2, 255), api.ErrLen},
		// The sum.
		{set(plainOne, 3, 20), api.ErrSum},
		{set(plainOne, 3, 27), api.ErrSum},
		{set(plainOne, 8, 63), api.ErrSum},
		{set(plainOne, 10, plainOne[10]+1), api.ErrSum},
		{set(plainOne, 11, plainOne[11]-1), api.ErrSum},
		{set(plainOne, 19, plainOne[19]+1), api.ErrSum},
		{set(long, 20, 77), api.ErrSum},
		{set(long, 59, 77), api.ErrSum},
		{append([]byte{0x45, 0, 0, 20}, make([]byte, 16)...), api.ErrSum},
		// The first of the three bits.
		{sealed(set(plainOne, 6, 0x80)), api.ErrFrag},
		{sealed(set(plainOne, 6, 0xc0)), api.ErrFrag},
		{sealed(set(plainOne, 6, 0xa0)), api.ErrFrag},
		{sealed(set(slowly(api.IP{Off: 8}), 6, 0x80)), api.ErrFrag},
		// More pieces behind a body that is no multiple of 8 bytes, or empty.
		{sealed(set(slowly(whole(0, 0)), 6, 0x20)), api.ErrFrag},
		{sealed(set(slowly(whole(8, 0)), 6, 0x20)), api.ErrFrag},
		{sealed(set(slowly(whole(0, 1)), 6, 0x20)), api.ErrFrag},
		{sealed(set(slowly(whole(0, 7)), 6, 0x20)), api.ErrFrag},
		{sealed(set(slowly(whole(0, 9)), 6, 0x60)), api.ErrFrag},
		{sealed(set(slowly(whole(4, 4)), 6, 0x20)), api.ErrFrag},
		{sealed(set(slowly(whole(0, 12)), 6, 0x20)), api.ErrFrag},
		// What stands behind the whole length makes no multiple of it.
		{sealed(append(set(slowly(whole(0, 7)), 6, 0x20), 1)), api.ErrFrag},
		// Head, Off and body together.
		{sealed(set(set(slowly(whole(0, 4)), 6, 0x1f), 7, 0xfd)), api.ErrFrag},
		{sealed(set(set(slowly(whole(0, 0)), 6, 0x1f), 7, 0xfe)), api.ErrFrag},
		{sealed(set(set(slowly(whole(0, 0)), 6, 0x1f), 7, 0xff)), api.ErrFrag},
		{sealed(set(set(slowly(whole(40, 4)), 6, 0x1f), 7, 0xf8)), api.ErrFrag},
		{sealed(set(set(slowly(whole(0, 8)), 6, 0x3f), 7, 0xfd)), api.ErrFrag},
		{sealed(set(slowly(whole(0, 65508)), 7, 1)), api.ErrFrag},
	} {
		p, e := Parse(c.b)
		if e != c.want {
			t.Errorf("%d: %d instead of %d", i, e, c.want)
		}
		isNothing(t, p)
		if p.Opts != nil || p.Body != nil {
			t.Errorf("%d: lists that aren't nil", i)
		}
	}
}

// P3.2: what just isn't an error.
func TestParseEdges(t *testing.T) {
	set := func(b []byte, at int, x byte) []byte { c := bytes.Clone(b); c[at] = x; return c }
	for i, c := range []struct {
		b    []byte
		want api.IP
	}{
		{sealed(set(slowly(whole(0, 8)), 6, 0x20)), with8(0)},
		{sealed(set(slowly(whole(40, 8)), 6, 0x20)), with8(40)},
		{sealed(set(set(slowly(api.IP{Body: []byte{1, 2, 3}}), 6, 0x1f), 7, 0xfd)), api.IP{Off: 65512, Body: []byte{1, 2, 3}}},
		{sealed(set(set(slowly(api.IP{Opts: counted(40, 1), Body: []byte{1, 2, 3}}), 6, 0x1f), 7, 0xf8)), api.IP{Off: 65472, Opts: counted(40, 1), Body: []byte{1, 2, 3}}},
		{sealed(set(slowly(api.IP{Body: counted(65507, 3)}), 7, 1)), api.IP{Off: 8, Body: counted(65507, 3)}},
		{slowly(api.IP{Body: counted(65515, 3)}), api.IP{Body: counted(65515, 3)}},
		{append(slowly(api.IP{Body: counted(65515, 3)}), counted(70000, 1)...), api.IP{Body: counted(65515, 3)}},
		// MF is asked of the body, not of the bytes behind it.
		{append(slowly(api.IP{MF: true, Body: counted(8, 3)}), 1, 2, 3), api.IP{MF: true, Body: counted(8, 3)}},
	} {
		p, e := Parse(c.b)
		if e != api.OK {
			t.Errorf("%d: %d", i, e)
		}
		asItWas(t, p, c.want)
	}
}

// with8 is a packet with more pieces behind its 8 bytes.
func with8(opts int) api.IP {
	p := whole(opts, 8)
	p.MF = true
	return p
}

// P3.2: of several errors the first is told.
func TestParseOrder(t *testing.T) {
	// Each fault is laid over bytes that have all the faults behind it.
	b := append([]byte{0x45, 0, 0, 21, 0, 0, 0xbf, 0xff, 0, 0}, make([]byte, 11)...)
	for _, c := range []struct {
		fault func()
		want  api.Errno
	}{
		{func() { b = sealed(b) }, api.ErrFrag},
		{func() { b[10]++ }, api.ErrSum},
		{func() { b[3] = 22 }, api.ErrLen},
		{func() { b[3] = 19 }, api.ErrLen},
		{func() { b[0] = 0x46 }, api.ErrHead},
		{func() { b[0] = 0x44 }, api.ErrHead},
		{func() { b[0] = 0x55 }, api.ErrHead},
		{func() { b = b[:19] }, api.ErrShort},
	} {
		c.fault()
		if p, e := Parse(b); e != c.want {
			t.Errorf("% x: %+v, %d instead of %d", b, p, e, c.want)
		}
	}
}

// P3.2: any bytes have an answer, and one that is a packet may be put.
func TestParseOfAnything(t *testing.T) {
	chance := rand.New(rand.NewSource(32))
	seen := map[api.Errno]int{}
	for range 60000 {
		b := make([]byte, chance.Intn(70))
		chance.Read(b)
		if len(b) >= 20 && chance.Intn(8) > 0 {
			b[0] = byte(0x40 + 4 + chance.Intn(6))
			b[2], b[3] = 0, byte(16+chance.Intn(60))
			if head := int(b[0]%16) * 4; head <= len(b) && chance.Intn(4) > 0 {
				b = sealed(b)
			}
		}
		p, e := Parse(b)
		seen[e]++
		if e != api.OK {
			isNothing(t, p)
		} else if again, e := Put(p); e != api.OK || !bytes.Equal(again, slowly(p)) {
			t.Errorf("% x is parsed as %+v, and put as % x, %d", b, p, again, e)
		}
	}
	for _, e := range []api.Errno{api.OK, api.ErrShort, api.ErrHead, api.ErrLen, api.ErrSum, api.ErrFrag} {
		if seen[e] < 100 {
			t.Errorf("%d was answered %d times", e, seen[e])
		}
	}
}

// P3.2: what is handed in stays, and the answer's lists are new memory, each of its own.
func TestParseLeaves(t *testing.T) {
	b := append(slowly(sample()), 1, 2, 3, 4)
	before := bytes.Clone(b)
	p, _ := Parse(b[:36])
	_ = append(p.Opts, 0xee, 0xee)
	_ = append(p.Body, 0xee, 0xee)
	asItWas(t, p, sample())
	for i := range p.Opts {
		p.Opts[i] = 0xdd
	}
	asItWas(t, p, with(func(p *api.IP) { copy(p.Opts, bytes.Repeat([]byte{0xdd}, 8)) }))
	for i := range p.Body {
		p.Body[i] = 0xcc
	}
	if !bytes.Equal(b, before) {
		t.Errorf("the bytes were changed to % x", b)
	}
	q, _ := Parse(b)
	clear(b)
	asItWas(t, q, sample())
}

// P3.3: what is put is parsed as it was.
func TestPutThenParse(t *testing.T) {
	for _, p := range somePackets() {
		b, e := Put(p)
		if e != api.OK {
			t.Fatalf("%+v: %d", p, e)
		}
		for _, behind := range [][]byte{nil, {1}, counted(9, 7)} {
			q, e := Parse(append(bytes.Clone(b), behind...))
			if e != api.OK || !Same(p, q) || Piece(p) != Piece(q) {
				t.Errorf("%+v is parsed as %+v, %d", p, q, e)
			}
			asItWas(t, q, p)
		}
	}
}

// P3.3: what is parsed is put as it was.
func TestParseThenPut(t *testing.T) {
	for _, p := range somePackets() {
		b := slowly(p)
		q, e := Parse(b)
		if e != api.OK {
			t.Fatalf("%+v: %d", p, e)
		}
		if again, e := Put(q); e != api.OK || !bytes.Equal(again, b) {
			t.Errorf("% x is put as % x, %d", b, again, e)
		}
	}
}

// P3.3: a check sum of 65535 where 0 would do is taken, and put as 0.
func TestTwoNoughts(t *testing.T) {
	b := []byte{0x45, 0, 0, 20, 0xba, 0xeb, 0, 0, 0, 0, 0, 0, 0, 0, 0, 0, 0, 0, 0, 0}
	other := bytes.Clone(b)
	other[10], other[11] = 0xff, 0xff
	for _, x := range [][]byte{b, other} {
		p, e := Parse(x)
		if e != api.OK {
			t.Fatalf("% x: %d", x, e)
		}
		asItWas(t, p, api.IP{ID: 0xbaeb})
		if again, e := Put(p); e != api.OK || !bytes.Equal(again, b) {
			t.Errorf("% x is put as % x, %d", x, again, e)
		}
	}
}

// P3.3: a head of which one byte was changed is an error.
func TestOneByteChanged(t *testing.T) {
	for _, p := range []api.IP{{}, sample(), whole(0, 0), whole(0, 60), whole(40, 0), whole(40, 90), {ID: 0xbaeb}, {MF: true, Off: 8, Body: make([]byte, 64)}} {
		b := slowly(p)
		for at := range 20 + len(p.Opts) {
			for x := range 256 {
				c := bytes.Clone(b)
				c[at] = byte(x)
				q, e := Parse(append(c, 1, 2, 3))
				if c[at] != b[at] && e == api.OK {
					t.Errorf("% x with %02x at %d is parsed as %+v", b, x, at, q)
				}
				if c[at] == b[at] && e != api.OK {
					t.Errorf("% x: %d", b, e)
				}
			}
		}
	}
}

// P3.3: two packets whose bytes differ but in the length of the head are both parsed as they were.
func TestLengthOfHeadChanged(t *testing.T) {
	longer := api.IP{Opts: []byte{0xfe, 0xff, 0, 0}, Body: []byte{7}}
	shorter := api.IP{Body: []byte{0xfe, 0xff, 0, 0, 7}}
	a, _ := Put(longer)
	b, _ := Put(shorter)
	if len(a) != 25 || len(b) != 25 || a[0] != 0x46 || b[0] != 0x45 || !bytes.Equal(a[1:], b[1:]) {
		t.Fatalf("% x and % x", a, b)
	}
	for _, c := range []struct {
		b    []byte
		want api.IP
	}{{a, longer}, {b, shorter}} {
		p, e := Parse(c.b)
		if e != api.OK {
			t.Error(e)
		}
		asItWas(t, p, c.want)
	}
}
