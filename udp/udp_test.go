package udp

import (
	"bytes"
	"math"
	"math/rand"
	"testing"

	"casemate/api"
)

// The addresses between which the datagrams of most tests go.
const (
	here  = 0x0a000001
	there = 0xc0a80207
)

// sample is a datagram that has something in each of its parts, and may be put.
func sample() api.UDP {
	return api.UDP{Sport: 0x1234, Dport: 0x5678, Body: []byte{11, 12, 13, 14, 15}}
}

// with is the sample, changed.
func with(change func(u *api.UDP)) api.UDP {
	u := sample()
	change(&u)
	return u
}

// counted are as many bytes as are asked, no two beside one another alike.
func counted(n, step int) []byte {
	b := make([]byte, n)
	for i := range b {
		b[i] = byte((i + 1) * step)
	}
	return b
}

// sumOf adds the words of the pseudo head and of a datagram one by one, apart from csum.
func sumOf(src, dst uint32, b []byte) int {
	all := []byte{
		byte(src >> 24), byte(src >> 16), byte(src >> 8), byte(src),
		byte(dst >> 24), byte(dst >> 16), byte(dst >> 8), byte(dst),
		0, 17, byte(len(b) >> 8), byte(len(b)),
	}
	all = append(all, b...)
	sum := 0
	for i, c := range all {
		if i%2 == 0 {
			sum += int(c) << 8
		} else {
			sum += int(c)
		}
		if sum > 65535 {
			sum -= 65535
		}
	}
	return sum
}

// checked is a copy of a datagram's bytes with another check sum.
func checked(b []byte, check int) []byte {
	c := bytes.Clone(b)
	c[6], c[7] = byte(check>>8), byte(check)
	return c
}

// sealed is a copy of a datagram's bytes with the check sum that they ask for.
func sealed(src, dst uint32, b []byte) []byte {
	check := 65535 - sumOf(src, dst, checked(b, 0))
	if check == 0 {
		check = 65535
	}
	return checked(b, check)
}

// sized is a copy of a datagram's bytes with another length.
func sized(b []byte, size int) []byte {
	c := bytes.Clone(b)
	c[4], c[5] = byte(size>>8), byte(size)
	return c
}

// slowly writes a datagram out bit by bit, apart from Put.
func slowly(src, dst uint32, u api.UDP) []byte {
	var b []byte
	for _, n := range []int{u.Sport, u.Dport, 8 + len(u.Body), 0} {
		high, low := 0, 0
		for i := range 8 {
			high, low = high|n>>8&(1<<i), low|n&(1<<i)
		}
		b = append(b, byte(high), byte(low))
	}
	b = append(b, u.Body...)
	if u.NoSum {
		return b
	}
	return sealed(src, dst, b)
}

// someDatagrams may all be put: each part at its edges, and many by the way.
func someDatagrams() []api.UDP {
	var list []api.UDP
	for _, u := range []api.UDP{
		{}, sample(), {Sport: 65535, Dport: 65535}, {Sport: 256, Dport: 255}, {Sport: 1, Dport: 2},
		{Body: counted(65527, 3)}, {Body: counted(65526, 3)}, {Sport: 65535, Dport: 65535, Body: bytes.Repeat([]byte{255}, 65527)},
		{Body: make([]byte, 65527)}, {Body: make([]byte, 40)}, {Body: counted(247, 1)}, {Body: counted(248, 1)}, {Body: counted(249, 1)},
	} {
		list = append(list, u, api.UDP{Sport: u.Sport, Dport: u.Dport, Body: u.Body, NoSum: true})
	}
	for n := range 30 {
		list = append(list, api.UDP{Body: counted(n, 7)})
	}
	chance := rand.New(rand.NewSource(5))
	for range 400 {
		list = append(list, drawn(chance))
	}
	return list
}

// drawn is a datagram that may be put, of parts that are drawn.
func drawn(chance *rand.Rand) api.UDP {
	u := api.UDP{Sport: chance.Intn(65536), Dport: chance.Intn(65536), NoSum: chance.Intn(4) == 0, Body: make([]byte, chance.Intn(100))}
	chance.Read(u.Body)
	return u
}

// asItWas fails if a datagram isn't the one that it was, part by part, apart from Same.
func asItWas(t *testing.T, got, want api.UDP) {
	t.Helper()
	if got.Sport != want.Sport || got.Dport != want.Dport || got.NoSum != want.NoSum || string(got.Body) != string(want.Body) {
		t.Errorf("%+v isn't %+v", got, want)
	}
}

// P5.1, with the chapter's example.
func TestPut(t *testing.T) {
	for i, c := range []struct {
		u    api.UDP
		want []byte
	}{
		{api.UDP{Sport: 1, Dport: 2, NoSum: true}, []byte{0, 1, 0, 2, 0, 8, 0, 0}},
		{api.UDP{Sport: 1, Dport: 2}, []byte{0, 1, 0, 2, 0, 8, 0x33, 0x2b}},
		{api.UDP{}, []byte{0, 0, 0, 0, 0, 8, 0x33, 0x2e}},
		{sample(), []byte{0x12, 0x34, 0x56, 0x78, 0, 13, 0xa3, 0x5d, 11, 12, 13, 14, 15}},
		{with(func(u *api.UDP) { u.NoSum = true }), []byte{0x12, 0x34, 0x56, 0x78, 0, 13, 0, 0, 11, 12, 13, 14, 15}},
	} {
		b, e := Put(here, there, c.u)
		if e != api.OK || !bytes.Equal(b, c.want) {
			t.Errorf("%d: % x, %d instead of % x", i, b, e, c.want)
		}
	}
}

// P5.1: each part stands in its place, at its edges and between.
func TestPutSlowly(t *testing.T) {
	list := someDatagrams()
	for bit := range 16 {
		list = append(list, api.UDP{Sport: 1 << bit}, api.UDP{Dport: 1 << bit}, api.UDP{Body: counted(1<<bit, 1)})
	}
	for _, u := range list {
		if b, e := Put(here, there, u); e != api.OK || !bytes.Equal(b, slowly(here, there, u)) {
			t.Errorf("%+v is put as % x, %d", u, b, e)
		}
	}
}

// P5.1: the sum is that of both addresses, too.
func TestPutSum(t *testing.T) {
	for _, a := range []uint32{0, 1, 0xffff, 0x10000, 0x0a000001, 0x80000000, 0xfffefffe, 0xffffffff} {
		for _, z := range []uint32{0, 1, 0xffff, 0x10000, 0x08080808, 0xffff0000, 0xffffffff} {
			for _, u := range []api.UDP{{}, sample(), {Body: []byte{1}}, {Body: counted(300, 255)}, {Body: counted(40000, 1)}} {
				b, e := Put(a, z, u)
				if e != api.OK || sumOf(a, z, b) != 65535 || !bytes.Equal(b, slowly(a, z, u)) {
					t.Errorf("from %08x to %08x: % x, %d", a, z, b[:8], e)
				}
				u.NoSum = true
				if b, e := Put(a, z, u); e != api.OK || !bytes.Equal(b, slowly(here, there, u)) {
					t.Errorf("without a sum, from %08x to %08x: % x, %d", a, z, b[:8], e)
				}
			}
		}
	}
}

// P5.1: a check sum that comes out as 0 is put as 65535, since 0 would say that there is none.
func TestPutSumOfNothing(t *testing.T) {
	for i, c := range []struct {
		src, dst uint32
		u        api.UDP
	}{
		{0, 0, api.UDP{Sport: 65535 - 17 - 8 - 8}},
		{0, 0, api.UDP{Dport: 65535 - 17 - 8 - 8}},
		{0, 0, api.UDP{Body: []byte{0xff, 0xda}}},
		{0, 65535 - 17 - 8 - 8, api.UDP{}},
		{(65535 - 17 - 8 - 8) << 16, 0, api.UDP{}},
		{0xffffffff, 0xffffffff, api.UDP{Sport: 65535, Dport: 65535 - 17 - 8 - 8}},
		{0, 0, api.UDP{Sport: 1, Dport: 65535 - 17 - 9 - 9 - 1 - 0x0700, Body: []byte{7}}},
	} {
		b, e := Put(c.src, c.dst, c.u)
		if e != api.OK || b[6] != 255 || b[7] != 255 || sumOf(c.src, c.dst, b) != 65535 {
			t.Errorf("%d: % x, %d", i, b, e)
		}
		u, e := Parse(c.src, c.dst, b)
		if e != api.OK {
			t.Errorf("%d: %d", i, e)
		}
		asItWas(t, u, c.u)
		c.u.NoSum = true
		if b, e := Put(c.src, c.dst, c.u); e != api.OK || b[6] != 0 || b[7] != 0 {
			t.Errorf("%d, without a sum: % x, %d", i, b, e)
		}
	}
}

// P5.1: each check sum comes out as it is, but for 0.
func TestPutEachSum(t *testing.T) {
	for n := range 65536 {
		u := api.UDP{Sport: n}
		b, e := Put(here, there, u)
		if e != api.OK || b[6] == 0 && b[7] == 0 || sumOf(here, there, b) != 65535 {
			t.Errorf("port %d: % x, %d", n, b, e)
		}
		if got, e := Parse(here, there, b); e != api.OK || got.NoSum || got.Sport != n {
			t.Errorf("port %d: %+v, %d", n, got, e)
		}
	}
}

// P5.1: what may just be put.
func TestPutEdges(t *testing.T) {
	for i, u := range []api.UDP{
		with(func(u *api.UDP) { u.Sport = 0 }),
		with(func(u *api.UDP) { u.Sport = 65535 }),
		with(func(u *api.UDP) { u.Dport = 0 }),
		with(func(u *api.UDP) { u.Dport = 65535 }),
		with(func(u *api.UDP) { u.Body = nil }),
		with(func(u *api.UDP) { u.Body = []byte{} }),
		with(func(u *api.UDP) { u.Body = []byte{0} }),
		// It has 65535 bytes, and one less.
		with(func(u *api.UDP) { u.Body = counted(65527, 1) }),
		with(func(u *api.UDP) { u.Body = counted(65526, 1) }),
		{Sport: 65535, Dport: 65535, NoSum: true, Body: counted(65527, 1)},
	} {
		b, e := Put(here, there, u)
		if e != api.OK || len(b) != 8+len(u.Body) || !bytes.Equal(b, slowly(here, there, u)) {
			t.Errorf("%d: %d bytes, %d", i, len(b), e)
		}
	}
}

// P5.1: numbers and lengths of which there is no place in the bytes.
func TestPutErrors(t *testing.T) {
	var list []api.UDP
	for _, n := range []int{-1, 65536, 65536 + 80, -65536, math.MaxInt, math.MinInt} {
		list = append(list,
			with(func(u *api.UDP) { u.Sport = n }),
			with(func(u *api.UDP) { u.Dport = n }),
			with(func(u *api.UDP) { u.Sport, u.Dport = n, -n }))
	}
	for _, n := range []int{65528, 65529, 65535, 65536, 65537, 1 << 17, 1 << 20} {
		list = append(list, api.UDP{Body: make([]byte, n)}, with(func(u *api.UDP) { u.Body = counted(n, 3) }))
	}
	for i, u := range list {
		if b, e := Put(here, there, u); e != api.ErrArg || b != nil {
			t.Errorf("%d: %d bytes, %d", i, len(b), e)
		}
		u.NoSum = true
		if b, e := Put(here, there, u); e != api.ErrArg || b != nil {
			t.Errorf("%d, without a sum: %d bytes, %d", i, len(b), e)
		}
	}
}

// P5.1: what is handed in stays, its spare room too, and the answer is new memory.
func TestPutLeaves(t *testing.T) {
	body := counted(20, 5)
	b, e := Put(here, there, api.UDP{Sport: 1, Dport: 2, Body: body[3:10]})
	if e != api.OK {
		t.Fatal(e)
	}
	for i := range b {
		b[i] = 0xee
	}
	_ = append(b, 0xee)
	if !bytes.Equal(body, counted(20, 5)) {
		t.Errorf("the body is % x", body)
	}
	b, _ = Put(here, there, api.UDP{Body: body[3:10]})
	clear(body)
	if !bytes.Equal(b, slowly(here, there, api.UDP{Body: counted(20, 5)[3:10]})) {
		t.Errorf("the answer was changed to % x", b)
	}
}

// P5.1
func TestSame(t *testing.T) {
	if !Same(sample(), sample()) || !Same(api.UDP{}, api.UDP{}) {
		t.Error("not the same as itself")
	}
	// A list is nil or empty alike, and spare room doesn't count.
	if empty := (api.UDP{Body: []byte{}}); !Same(api.UDP{}, empty) || !Same(empty, api.UDP{}) {
		t.Error("nil and empty bodies aren't the same")
	}
	if !Same(api.UDP{Body: make([]byte, 2, 8)}, api.UDP{Body: make([]byte, 2)}) {
		t.Error("spare room counts")
	}
	for i, u := range []api.UDP{
		{},
		with(func(u *api.UDP) { u.Sport++ }),
		with(func(u *api.UDP) { u.Sport += 65536 }),
		with(func(u *api.UDP) { u.Sport = -u.Sport }),
		with(func(u *api.UDP) { u.Dport++ }),
		with(func(u *api.UDP) { u.Dport += 65536 }),
		with(func(u *api.UDP) { u.Dport = -u.Dport }),
		with(func(u *api.UDP) { u.Sport, u.Dport = u.Dport, u.Sport }),
		with(func(u *api.UDP) { u.NoSum = true }),
		with(func(u *api.UDP) { u.Body = nil }),
		with(func(u *api.UDP) { u.Body = u.Body[:4] }),
		with(func(u *api.UDP) { u.Body = u.Body[1:] }),
		with(func(u *api.UDP) { u.Body = append(u.Body, 0) }),
		with(func(u *api.UDP) { u.Body[0]++ }),
		with(func(u *api.UDP) { u.Body[4]++ }),
		with(func(u *api.UDP) { u.Body[0], u.Body[2] = u.Body[2], u.Body[0] }),
	} {
		if Same(u, sample()) || Same(sample(), u) {
			t.Errorf("%d: the same", i)
		}
		if !Same(u, u) {
			t.Errorf("%d: not the same as itself", i)
		}
	}
}

// P5.2, with the chapter's example.
func TestParse(t *testing.T) {
	for i, c := range []struct {
		b    []byte
		want api.UDP
	}{
		{[]byte{0, 1, 0, 2, 0, 8, 0, 0}, api.UDP{Sport: 1, Dport: 2, NoSum: true}},
		{[]byte{0, 1, 0, 2, 0, 8, 0x33, 0x2b}, api.UDP{Sport: 1, Dport: 2}},
		{[]byte{0, 0, 0, 0, 0, 8, 0x33, 0x2e}, api.UDP{}},
		{[]byte{0x12, 0x34, 0x56, 0x78, 0, 13, 0xa3, 0x5d, 11, 12, 13, 14, 15}, sample()},
		{[]byte{0x12, 0x34, 0x56, 0x78, 0, 13, 0, 0, 11, 12, 13, 14, 15}, with(func(u *api.UDP) { u.NoSum = true })},
		// A length that would be 8 at once, and one of 65535.
		{slowly(here, there, api.UDP{Body: counted(65527, 3)}), api.UDP{Body: counted(65527, 3)}},
		{slowly(here, there, api.UDP{Body: counted(248, 3)}), api.UDP{Body: counted(248, 3)}},
	} {
		u, e := Parse(here, there, c.b)
		if e != api.OK {
			t.Errorf("%d: %d", i, e)
		}
		asItWas(t, u, c.want)
	}
}

// P5.2: what stands behind the length doesn't count, neither as a body nor in the sum.
func TestParseBehind(t *testing.T) {
	for _, u := range []api.UDP{
		{}, {NoSum: true}, sample(), with(func(u *api.UDP) { u.NoSum = true }), {Body: counted(4, 9)}, {Body: []byte{1}},
		{Body: counted(65527, 3)}, {Body: counted(65526, 3)},
	} {
		b := slowly(here, there, u)
		for _, behind := range [][]byte{{0}, {9}, {255}, {0, 0}, {1, 2, 3}, counted(8, 7), counted(70000, 1)} {
			got, e := Parse(here, there, append(bytes.Clone(b), behind...))
			if e != api.OK {
				t.Errorf("%d bytes with %d behind: %d", len(b), len(behind), e)
			}
			asItWas(t, got, u)
		}
	}
}

// P5.2: bytes that are none, one error each.
func TestParseErrors(t *testing.T) {
	plain, bare := slowly(here, there, sample()), slowly(here, there, api.UDP{Sport: 1, Dport: 2, NoSum: true, Body: []byte{1, 2, 3}})
	set := func(b []byte, at int, x byte) []byte { c := bytes.Clone(b); c[at] = x; return c }
	for i, c := range []struct {
		b    []byte
		want api.Errno
	}{
		{nil, api.ErrShort},
		{[]byte{}, api.ErrShort},
		{[]byte{1}, api.ErrShort},
		{make([]byte, 5), api.ErrShort},
		{make([]byte, 7), api.ErrShort},
		{plain[:7], api.ErrShort},
		{bare[:7], api.ErrShort},
		// The length is below 8.
		{make([]byte, 8), api.ErrLen},
		{make([]byte, 70000), api.ErrLen},
		{sized(plain, 0), api.ErrLen},
		{sized(plain, 1), api.ErrLen},
		{sized(plain, 7), api.ErrLen},
		{sized(bare, 0), api.ErrLen},
		{sized(bare, 7), api.ErrLen},
		{sealed(here, there, sized(plain, 7)), api.ErrLen},
		// The length is above that of the bytes.
		{plain[:12], api.ErrLen},
		{plain[:8], api.ErrLen},
		{bare[:10], api.ErrLen},
		{bare[:8], api.ErrLen},
		{sized(plain, 14), api.ErrLen},
		{sized(plain, 13+256), api.ErrLen},
		{sized(plain, 65535), api.ErrLen},
		{sized(bare, 12), api.ErrLen},
		{sized(bare, 65535), api.ErrLen},
		{slowly(here, there, api.UDP{Body: counted(65527, 1)})[:65534], api.ErrLen},
		// The sum.
		{set(plain, 0, 1), api.ErrSum},
		{set(plain, 3, 1), api.ErrSum},
		{sized(plain, 12), api.ErrSum},
		{sized(plain, 8), api.ErrSum},
		{set(plain, 6, plain[6]+1), api.ErrSum},
		{set(plain, 7, plain[7]-1), api.ErrSum},
		{set(plain, 8, 0), api.ErrSum},
		{set(plain, 12, 0), api.ErrSum},
		{checked(plain, 65535), api.ErrSum},
		{checked(bare, 65535), api.ErrSum},
		{checked(bare, 1), api.ErrSum},
		{checked(bare, 256), api.ErrSum},
	} {
		u, e := Parse(here, there, c.b)
		if e != c.want {
			t.Errorf("%d: %d instead of %d", i, e, c.want)
		}
		asItWas(t, u, api.UDP{})
		if u.Body != nil {
			t.Errorf("%d: a body that isn't nil", i)
		}
	}
}

// P5.2: the sum is that of both addresses, of the protocol and of the length as well.
func TestParseSum(t *testing.T) {
	b, bare := slowly(here, there, sample()), slowly(here, there, with(func(u *api.UDP) { u.NoSum = true }))
	for _, c := range []struct{ src, dst uint32 }{
		{here + 1, there}, {here, there + 1}, {here - 1, there}, {here ^ 1<<31, there}, {here, there ^ 1<<31}, {0, 0}, {here + 1, there + 1},
	} {
		if u, e := Parse(c.src, c.dst, b); e != api.ErrSum {
			t.Errorf("from %08x to %08x: %+v, %d", c.src, c.dst, u, e)
		}
		// Without a sum nobody asks for the addresses.
		if u, e := Parse(c.src, c.dst, bare); e != api.OK || !u.NoSum {
			t.Errorf("without a sum, from %08x to %08x: %+v, %d", c.src, c.dst, u, e)
		}
	}
	// Both sides count alike, so that what is sent back has the same sum.
	if u, e := Parse(there, here, b); e != api.OK || !Same(u, sample()) {
		t.Errorf("turned: %+v, %d", u, e)
	}
}

// P5.2: of all check sums one fits, and 0 says that there is none.
func TestParseEachSum(t *testing.T) {
	for _, want := range []api.UDP{{}, sample(), {Sport: 65535, Body: []byte{255}}, {Body: make([]byte, 9)}, {Body: counted(600, 11)}} {
		for _, a := range []struct{ src, dst uint32 }{{here, there}, {0, 0}, {0xffffffff, 0xffffffff}} {
			b := slowly(a.src, a.dst, want)
			right := int(b[6])<<8 | int(b[7])
			for check := range 65536 {
				u, e := Parse(a.src, a.dst, checked(b, check))
				switch {
				case check == 0 && (e != api.OK || !u.NoSum):
					t.Errorf("without a sum: %+v, %d", u, e)
				case check == right && (e != api.OK || !Same(u, want)):
					t.Errorf("with its sum: %+v, %d", u, e)
				case check != 0 && check != right && e != api.ErrSum:
					t.Errorf("with the sum %04x instead of %04x: %+v, %d", check, right, u, e)
				}
			}
		}
	}
}

// P5.2: of several errors the first is told.
func TestParseOrder(t *testing.T) {
	// Each fault is laid over bytes that have all the faults behind it.
	b := slowly(here, there, sample())
	for _, c := range []struct {
		fault func()
		want  api.Errno
	}{
		{func() { b[0]++ }, api.ErrSum},
		{func() { b = sized(b, 14) }, api.ErrLen},
		{func() { b = sized(b, 7) }, api.ErrLen},
		{func() { b = b[:7] }, api.ErrShort},
	} {
		c.fault()
		if u, e := Parse(here, there, b); e != c.want {
			t.Errorf("% x: %+v, %d instead of %d", b, u, e, c.want)
		}
	}
}

// P5.2 and P5.3: any bytes have an answer, and one that is a datagram is put as it was.
func TestParseOfAnything(t *testing.T) {
	chance := rand.New(rand.NewSource(52))
	seen := map[api.Errno]int{}
	bare := 0
	for range 60000 {
		b := anyBytes(chance)
		u, e := Parse(here, there, b)
		seen[e]++
		if e != api.OK {
			asItWas(t, u, api.UDP{})
			continue
		}
		if u.NoSum {
			bare++
		}
		again, e := Put(here, there, u)
		if e != api.OK || !bytes.Equal(again, slowly(here, there, u)) || !bytes.HasPrefix(b, again) {
			t.Errorf("% x is parsed as %+v, and put as % x, %d", b, u, again, e)
		}
	}
	for _, e := range []api.Errno{api.OK, api.ErrShort, api.ErrLen, api.ErrSum} {
		if seen[e] < 100 {
			t.Errorf("%d was answered %d times", e, seen[e])
		}
	}
	if bare < 100 || seen[api.OK]-bare < 100 {
		t.Errorf("of %d datagrams %d had no sum", seen[api.OK], bare)
	}
}

// anyBytes are drawn, most of them near to a datagram.
func anyBytes(chance *rand.Rand) []byte {
	b := make([]byte, chance.Intn(50))
	chance.Read(b)
	if len(b) < 8 || chance.Intn(8) == 0 {
		return b
	}
	size := max(0, len(b)+3-chance.Intn(12))
	b = sized(b, size)
	switch chance.Intn(4) {
	case 0:
		return checked(b, 0)
	case 1:
		return b
	}
	if size < 8 || size > len(b) {
		return b
	}
	return append(sealed(here, there, b[:size]), b[size:]...)
}

// P5.2: what is handed in stays, its spare room too, and the answer's body is new memory.
func TestParseLeaves(t *testing.T) {
	b := append(slowly(here, there, sample()), 1, 2, 3, 4)
	before := bytes.Clone(b)
	u, _ := Parse(here, there, b)
	_ = append(u.Body, 0xee, 0xee)
	asItWas(t, u, sample())
	clear(u.Body)
	if !bytes.Equal(b, before) {
		t.Errorf("the bytes were changed to % x", b)
	}
	u, _ = Parse(here, there, b)
	clear(b)
	asItWas(t, u, sample())
}

// P5.3: what is put is parsed as it was.
func TestPutThenParse(t *testing.T) {
	for i, u := range someDatagrams() {
		src, dst := uint32(i)*0x9e3779b9, uint32(i)*0x85ebca6b+7
		b, e := Put(src, dst, u)
		if e != api.OK {
			t.Fatalf("%+v: %d", u, e)
		}
		for _, behind := range [][]byte{nil, {1}, counted(9, 7)} {
			got, e := Parse(src, dst, append(bytes.Clone(b), behind...))
			if e != api.OK || !Same(u, got) {
				t.Errorf("%+v is parsed as %+v, %d", u, got, e)
			}
			asItWas(t, got, u)
		}
	}
}

// P5.3: what is parsed is put as it was.
func TestParseThenPut(t *testing.T) {
	for i, u := range someDatagrams() {
		src, dst := uint32(i)*0x9e3779b9, uint32(i)*0x85ebca6b+7
		b := slowly(src, dst, u)
		got, e := Parse(src, dst, b)
		if e != api.OK {
			t.Fatalf("%+v: %d", u, e)
		}
		if again, e := Put(src, dst, got); e != api.OK || !bytes.Equal(again, b) {
			t.Errorf("% x is put as % x, %d", b, again, e)
		}
	}
}
