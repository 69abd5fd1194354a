package tcp

import (
	"bytes"
	"math"
	"math/rand"
	"slices"
	"testing"

	"casemate/api"
)

// The addresses between which the segments of most tests go.
const (
	here  = 0x0a000001
	there = 0xc0a80207
)

// sample is a segment that has something in each of its parts, and may be put.
func sample() api.TCP {
	return api.TCP{
		Sport: 0x1234, Dport: 0x5678, Seq: 0x9abcdef0, Ack: 0x13579bdf, Flags: 0x5a, Win: 0x2468, Urg: 0xace1,
		Opts: []api.Opt{
			{Kind: api.OptMss, Data: []byte{0x05, 0xb4}}, {Kind: api.OptScale, Data: []byte{7}},
			{Kind: api.OptSackOK}, {Kind: 77, Data: []byte{9, 8, 7}},
		},
		Body: []byte{11, 12, 13, 14, 15},
	}
}

// with is the sample, changed.
func with(change func(s *api.TCP)) api.TCP {
	s := sample()
	change(&s)
	return s
}

// of is a segment of some options alone.
func of(opts ...api.Opt) api.TCP { return api.TCP{Opts: opts} }

// opt is an option with so many bytes of Data.
func opt(kind, n int) api.Opt { return api.Opt{Kind: kind, Data: counted(n, 3)} }

// counted are as many bytes as are asked, no two beside one another alike.
func counted(n, step int) []byte {
	b := make([]byte, n)
	for i := range b {
		b[i] = byte((i + 1) * step)
	}
	return b
}

// sumOf adds the words of the pseudo head and of a segment one by one, apart from csum.
func sumOf(src, dst uint32, b []byte) int {
	all := []byte{
		byte(src >> 24), byte(src >> 16), byte(src >> 8), byte(src),
		byte(dst >> 24), byte(dst >> 16), byte(dst >> 8), byte(dst),
		0, 6, byte(len(b) >> 8), byte(len(b)),
	}
	all = append(all, b...)
	sum := 0
	for i, c := range all {
		if i%2 == 0 {
			sum += int(c) << 8
		} else {
			sum += int(c)
		}
		if sum > 65535 {
			sum -= 65535
		}
	}
	return sum
}

// sealed is a copy of a segment's bytes with the check sum that they ask for.
func sealed(src, dst uint32, b []byte) []byte {
	c := bytes.Clone(b)
	c[16], c[17] = 0, 0
	check := 65535 - sumOf(src, dst, c)
	c[16], c[17] = byte(check>>8), byte(check)
	return c
}

// raw is the bytes of a segment between here and there whose head has these bytes of options.
func raw(opts []byte, body ...byte) []byte {
	b := make([]byte, 20, 60)
	b[12] = byte((5 + len(opts)/4) * 16)
	return sealed(here, there, append(append(b, opts...), body...))
}

// slowly writes a segment out bit by bit, apart from Put.
func slowly(src, dst uint32, s api.TCP) []byte {
	var opts []byte
	for _, o := range s.Opts {
		opts = append(opts, byte(o.Kind), byte(len(o.Data)+2))
		opts = append(opts, o.Data...)
	}
	for len(opts)%4 != 0 {
		opts = append(opts, 0)
	}
	var b []byte
	held, bits := 0, 0
	push := func(n, width int) {
		for i := width - 1; i >= 0; i-- {
			held, bits = held*2+n>>i&1, bits+1
			if bits == 8 {
				b, held, bits = append(b, byte(held)), 0, 0
			}
		}
	}
	push(s.Sport, 16)
	push(s.Dport, 16)
	push(int(s.Seq), 32)
	push(int(s.Ack), 32)
	push(5+len(opts)/4, 4)
	push(0, 4)
	push(s.Flags, 8)
	push(s.Win, 16)
	push(0, 16)
	push(s.Urg, 16)
	return sealed(src, dst, append(append(b, opts...), s.Body...))
}

// someSegments may all be put: each part at its edges, and many by the way.
func someSegments() []api.TCP {
	list := []api.TCP{
		{}, sample(),
		{Sport: 65535, Dport: 65535, Seq: 1<<32 - 1, Ack: 1<<32 - 1, Flags: 255, Win: 65535, Urg: 65535},
		{Body: counted(65515, 3)}, {Body: counted(65514, 3)},
		{Opts: []api.Opt{opt(254, 38)}, Body: counted(65475, 5)},
		{Opts: []api.Opt{opt(254, 1)}, Body: counted(65511, 5)},
		of(opt(api.OptMss, 2)), of(opt(api.OptScale, 1)), of(opt(api.OptSackOK, 0)), of(opt(api.OptStamp, 8)),
		of(opt(api.OptSack, 8)), of(opt(api.OptSack, 16)), of(opt(api.OptSack, 24)), of(opt(api.OptSack, 32)),
		of(opt(api.OptStamp, 8), opt(api.OptScale, 1), opt(api.OptSackOK, 0), opt(api.OptMss, 2), opt(api.OptSack, 16)),
		of(opt(api.OptSack, 32), opt(api.OptSackOK, 0), opt(api.OptMss, 2)),
		of(opt(6, 0), opt(6, 0), opt(6, 3), opt(7, 1), opt(9, 2), opt(255, 5), opt(9, 2)),
		// Data that looks like what stands between options, or ends them.
		of(api.Opt{Kind: 30, Data: []byte{0, 0, 1, 1, 0}}, api.Opt{Kind: api.OptMss, Data: []byte{0, 0}}, api.Opt{Kind: api.OptScale, Data: []byte{0}}),
	}
	for n := range 39 {
		list = append(list, api.TCP{Opts: []api.Opt{opt(200, n)}, Body: counted(n, 7)})
	}
	chance := rand.New(rand.NewSource(4))
	for range 400 {
		list = append(list, drawn(chance))
	}
	return list
}

// drawn is a segment that may be put, of parts that are drawn.
func drawn(chance *rand.Rand) api.TCP {
	s := api.TCP{
		Sport: chance.Intn(65536), Dport: chance.Intn(65536), Seq: chance.Uint32(), Ack: chance.Uint32(),
		Flags: chance.Intn(256), Win: chance.Intn(65536), Urg: chance.Intn(65536), Body: make([]byte, chance.Intn(100)),
	}
	chance.Read(s.Body)
	room := 40
	for _, at := range chance.Perm(9)[:chance.Intn(6)] {
		kinds := []api.Opt{
			opt(api.OptMss, 2), opt(api.OptScale, 1), opt(api.OptSackOK, 0), opt(api.OptSack, 8*(1+chance.Intn(4))), opt(api.OptStamp, 8),
			opt(6+chance.Intn(2), chance.Intn(9)), opt(9+chance.Intn(247), chance.Intn(9)), opt(9, 0), opt(255, chance.Intn(20)),
		}
		if o := kinds[at]; len(o.Data)+2 <= room {
			chance.Read(o.Data)
			s.Opts, room = append(s.Opts, o), room-len(o.Data)-2
		}
	}
	return s
}

// asItWas fails if a segment isn't the one that it was, part by part, apart from Same.
func asItWas(t *testing.T, got, want api.TCP) {
	t.Helper()
	ok := got.Sport == want.Sport && got.Dport == want.Dport && got.Seq == want.Seq && got.Ack == want.Ack &&
		got.Flags == want.Flags && got.Win == want.Win && got.Urg == want.Urg &&
		len(got.Opts) == len(want.Opts) && string(got.Body) == string(want.Body)
	for i := 0; ok && i < len(got.Opts); i++ {
		ok = got.Opts[i].Kind == want.Opts[i].Kind && string(got.Opts[i].Data) == string(want.Opts[i].Data)
	}
	if !ok {
		t.Errorf("%+v isn't %+v", got, want)
	}
}

// P4.1, with the chapter's example.
func TestPut(t *testing.T) {
	for i, c := range []struct {
		s    api.TCP
		want []byte
	}{
		{api.TCP{}, []byte{0, 0, 0, 0, 0, 0, 0, 0, 0, 0, 0, 0, 0x50, 0, 0, 0, 0xe3, 0x34, 0, 0}},
		{
			of(api.Opt{Kind: 2, Data: []byte{0x05, 0xb4}}, api.Opt{Kind: 4}),
			[]byte{0, 0, 0, 0, 0, 0, 0, 0, 0, 0, 0, 0, 0x70, 0, 0, 0, 0xb7, 0x72, 0, 0, 2, 4, 5, 0xb4, 4, 2, 0, 0},
		},
		{
			sample(),
			[]byte{
				0x12, 0x34, 0x56, 0x78, 0x9a, 0xbc, 0xde, 0xf0, 0x13, 0x57, 0x9b, 0xdf, 0x90, 0x5a, 0x24, 0x68, 0xf7, 0xb4, 0xac, 0xe1,
				2, 4, 0x05, 0xb4, 3, 3, 7, 4, 2, 77, 5, 9, 8, 7, 0, 0, 11, 12, 13, 14, 15,
			},
		},
	} {
		b, e := Put(here, there, c.s)
		if e != api.OK || !bytes.Equal(b, c.want) {
			t.Errorf("%d: % x, %d instead of % x", i, b, e, c.want)
		}
	}
}

// P4.1: each part stands in its place, at its edges and between.
func TestPutSlowly(t *testing.T) {
	list := someSegments()
	for bit := range 32 {
		list = append(list, api.TCP{Seq: 1 << bit}, api.TCP{Ack: 1 << bit}, api.TCP{Sport: 1 << (bit / 2)}, api.TCP{Dport: 1 << (bit / 2)},
			api.TCP{Win: 1 << (bit / 2)}, api.TCP{Urg: 1 << (bit / 2)}, api.TCP{Flags: 1 << (bit / 4)}, api.TCP{Body: counted(bit, 1)})
	}
	for _, s := range list {
		if b, e := Put(here, there, s); e != api.OK || !bytes.Equal(b, slowly(here, there, s)) {
			t.Errorf("%+v is put as % x, %d", s, b, e)
		}
	}
}

// P4.1: the sum is that of both addresses, too.
func TestPutSum(t *testing.T) {
	for _, a := range []uint32{0, 1, 0xffff, 0x10000, 0x0a000001, 0x80000000, 0xfffefffe, 0xffffffff} {
		for _, z := range []uint32{0, 1, 0xffff, 0x10000, 0x08080808, 0xffff0000, 0xffffffff} {
			for _, s := range []api.TCP{{}, sample(), {Body: []byte{1}}, {Body: counted(300, 255)}, {Body: counted(40000, 1)}} {
				b, e := Put(a, z, s)
				if e != api.OK || sumOf(a, z, b) != 65535 || !bytes.Equal(b, slowly(a, z, s)) {
					t.Errorf("from %08x to %08x: % x, %d", a, z, b[:20], e)
				}
			}
		}
	}
}

// P4.1: a check sum that comes out as 0 is put as 0.
func TestPutSumOfNothing(t *testing.T) {
	b, e := Put(0, 0, api.TCP{Sport: 65535 - 6 - 20 - 0x5000})
	if e != api.OK || b[16] != 0 || b[17] != 0 || sumOf(0, 0, b) != 65535 {
		t.Errorf("% x, %d", b, e)
	}
}

// P4.1: what may just be put.
func TestPutEdges(t *testing.T) {
	for i, s := range []api.TCP{
		with(func(s *api.TCP) { s.Sport = 0 }),
		with(func(s *api.TCP) { s.Sport = 65535 }),
		with(func(s *api.TCP) { s.Dport = 0 }),
		with(func(s *api.TCP) { s.Dport = 65535 }),
		with(func(s *api.TCP) { s.Win = 0 }),
		with(func(s *api.TCP) { s.Win = 65535 }),
		with(func(s *api.TCP) { s.Urg = 0 }),
		with(func(s *api.TCP) { s.Urg = 65535 }),
		with(func(s *api.TCP) { s.Flags = 0 }),
		with(func(s *api.TCP) { s.Flags = 255 }),
		with(func(s *api.TCP) { s.Body = nil }),
		with(func(s *api.TCP) { s.Body = []byte{} }),
		with(func(s *api.TCP) { s.Opts = nil }),
		with(func(s *api.TCP) { s.Opts = []api.Opt{} }),
		// An option without Data, or with none at all, of any kind that asks for none.
		of(api.Opt{Kind: api.OptSackOK, Data: []byte{}}),
		of(opt(6, 0)), of(opt(7, 0)), of(opt(9, 0)), of(opt(255, 0)), of(opt(254, 1)),
		// 40 bytes of options.
		of(opt(6, 38)),
		of(opt(api.OptSack, 32), opt(6, 4)),
		of(opt(api.OptStamp, 8), opt(api.OptSack, 24), opt(api.OptSackOK, 0), opt(7, 0)),
		of(slices.Repeat([]api.Opt{opt(6, 0)}, 20)...),
		// And 39, 38, 37, which are filled up.
		of(opt(6, 37)), of(opt(6, 36)), of(opt(6, 35)),
		// Kinds of which there may be more than one.
		of(opt(6, 2), opt(6, 2)), of(opt(7, 0), opt(7, 1), opt(7, 0)), of(opt(255, 3), opt(255, 3)), of(opt(9, 3), opt(9, 3)),
		// Head and body are 65535 bytes.
		{Body: make([]byte, 65515)},
		{Opts: []api.Opt{opt(6, 0)}, Body: make([]byte, 65511)},
		{Opts: []api.Opt{opt(6, 2)}, Body: make([]byte, 65511)},
		{Opts: []api.Opt{opt(6, 38)}, Body: make([]byte, 65475)},
		{Opts: []api.Opt{opt(6, 35)}, Body: make([]byte, 65475)},
	} {
		b, e := Put(here, there, s)
		if e != api.OK || !bytes.Equal(b, slowly(here, there, s)) {
			t.Errorf("%d: %d bytes, %d", i, len(b), e)
		}
	}
}

// P4.1: numbers and lengths of which there is no place in the bytes.
func TestPutErrors(t *testing.T) {
	list := []api.TCP{
		// Head and body are above 65535 bytes.
		{Body: make([]byte, 65516)},
		{Body: make([]byte, 1<<20)},
		{Opts: []api.Opt{opt(6, 0)}, Body: make([]byte, 65512)},
		{Opts: []api.Opt{opt(6, 0)}, Body: make([]byte, 65513)},
		{Opts: []api.Opt{opt(6, 2)}, Body: make([]byte, 65512)},
		{Opts: []api.Opt{opt(6, 38)}, Body: make([]byte, 65476)},
		{Opts: []api.Opt{opt(6, 35)}, Body: make([]byte, 65476)},
	}
	for _, n := range []int{-1, 65536, 65536 + 80, -65536, math.MaxInt, math.MinInt} {
		list = append(list,
			with(func(s *api.TCP) { s.Sport = n }),
			with(func(s *api.TCP) { s.Dport = n }),
			with(func(s *api.TCP) { s.Win = n }),
			with(func(s *api.TCP) { s.Urg = n }),
			with(func(s *api.TCP) { s.Flags = n }))
	}
	list = append(list, with(func(s *api.TCP) { s.Flags = 256 }), with(func(s *api.TCP) { s.Flags = 256 | api.Syn }))
	for i, s := range list {
		if b, e := Put(here, there, s); e != api.ErrArg || b != nil {
			t.Errorf("%d: %d bytes, %d", i, len(b), e)
		}
	}
}

// P4.1: options that aren't right, or too many.
func TestPutOptErrors(t *testing.T) {
	var list []api.TCP
	for _, kind := range []int{math.MinInt, -256, -254, -2, -1, 0, 1, 256, 257, 256 + 6, 65536 + 6, math.MaxInt} {
		list = append(list, of(opt(kind, 0)), of(opt(kind, 2)), of(opt(6, 0), opt(kind, 1)), of(opt(kind, 1), opt(6, 0)))
	}
	right := map[int][]int{api.OptMss: {2}, api.OptScale: {1}, api.OptSackOK: {0}, api.OptSack: {8, 16, 24, 32}, api.OptStamp: {8}}
	for kind, lengths := range right {
		for n := range 45 {
			if !slices.Contains(lengths, n) {
				list = append(list, of(opt(kind, n)), of(opt(6, 0), opt(kind, n)), of(opt(kind, n), opt(6, 0)))
			}
		}
		// There is at most one, wherever both stand.
		one := opt(kind, lengths[0])
		list = append(list, of(one, one), of(one, opt(6, 0), one), of(one, opt(6, 0), opt(7, 5), opt(6, 0), one))
	}
	list = append(list,
		of(opt(api.OptSack, 8), opt(api.OptSack, 16)), of(opt(api.OptScale, 1), opt(api.OptSackOK, 0), opt(api.OptMss, 2), opt(api.OptScale, 1)),
		// More than 40 bytes.
		of(opt(6, 39)), of(opt(6, 40)), of(opt(6, 253)), of(opt(6, 254)), of(opt(6, 256)), of(opt(6, 1<<20)),
		of(opt(6, 18), opt(7, 19)), of(opt(6, 38), opt(7, 0)), of(opt(7, 0), opt(6, 38)),
		of(opt(api.OptSack, 32), opt(api.OptStamp, 8)), of(opt(api.OptSack, 32), opt(6, 5)),
		of(slices.Repeat([]api.Opt{opt(6, 0)}, 21)...), of(slices.Repeat([]api.Opt{opt(6, 0)}, 1<<16)...),
	)
	for i, s := range list {
		if b, e := Put(here, there, s); e != api.ErrArg || b != nil {
			t.Errorf("%d: %d bytes, %d", i, len(b), e)
		}
	}
}

// P4.1: what is handed in stays, its spare room too, and the answer is new memory.
func TestPutLeaves(t *testing.T) {
	data, body := counted(12, 3), counted(20, 5)
	opts := []api.Opt{{Kind: 6, Data: data[2:5]}, {Kind: 7, Data: data[6:7]}, {Kind: 8, Data: data}}
	b, e := Put(here, there, api.TCP{Opts: opts[:2], Body: body[3:10]})
	if e != api.OK {
		t.Fatal(e)
	}
	for i := range b {
		b[i] = 0xee
	}
	_ = append(b, 0xee)
	if !bytes.Equal(data, counted(12, 3)) || !bytes.Equal(body, counted(20, 5)) {
		t.Errorf("the options are % x, the body is % x", data, body)
	}
	asItWas(t, of(opts...), of(api.Opt{Kind: 6, Data: data[2:5]}, api.Opt{Kind: 7, Data: data[6:7]}, api.Opt{Kind: 8, Data: data}))
}

// P4.1
func TestSame(t *testing.T) {
	if !Same(sample(), sample()) || !Same(api.TCP{}, api.TCP{}) {
		t.Error("not the same as itself")
	}
	// A list is nil or empty alike.
	empty := api.TCP{Opts: []api.Opt{}, Body: []byte{}}
	if !Same(api.TCP{}, empty) || !Same(empty, api.TCP{}) {
		t.Error("nil and empty lists aren't the same")
	}
	if !Same(of(api.Opt{Kind: 4}), of(api.Opt{Kind: 4, Data: []byte{}})) {
		t.Error("nil and empty Data aren't the same")
	}
	for i, s := range []api.TCP{
		{},
		with(func(s *api.TCP) { s.Sport++ }),
		with(func(s *api.TCP) { s.Dport++ }),
		with(func(s *api.TCP) { s.Sport, s.Dport = s.Dport, s.Sport }),
		with(func(s *api.TCP) { s.Seq++ }),
		with(func(s *api.TCP) { s.Seq ^= 1 << 31 }),
		with(func(s *api.TCP) { s.Ack++ }),
		with(func(s *api.TCP) { s.Ack ^= 1 << 31 }),
		with(func(s *api.TCP) { s.Seq, s.Ack = s.Ack, s.Seq }),
		with(func(s *api.TCP) { s.Flags ^= api.Fin }),
		with(func(s *api.TCP) { s.Flags ^= api.Cwr }),
		with(func(s *api.TCP) { s.Flags += 256 }),
		with(func(s *api.TCP) { s.Win++ }),
		with(func(s *api.TCP) { s.Win += 65536 }),
		with(func(s *api.TCP) { s.Urg++ }),
		with(func(s *api.TCP) { s.Opts = nil }),
		with(func(s *api.TCP) { s.Opts = s.Opts[:3] }),
		with(func(s *api.TCP) { s.Opts = s.Opts[1:] }),
		with(func(s *api.TCP) { s.Opts = append(s.Opts, opt(6, 0)) }),
		with(func(s *api.TCP) { s.Opts[0].Kind = 6 }),
		with(func(s *api.TCP) { s.Opts[3].Kind++ }),
		with(func(s *api.TCP) { s.Opts[0].Data[1]++ }),
		with(func(s *api.TCP) { s.Opts[3].Data[0]++ }),
		with(func(s *api.TCP) { s.Opts[3].Data = s.Opts[3].Data[:2] }),
		with(func(s *api.TCP) { s.Opts[2].Data = []byte{0} }),
		with(func(s *api.TCP) { s.Opts[0], s.Opts[1] = s.Opts[1], s.Opts[0] }),
		with(func(s *api.TCP) { s.Body = nil }),
		with(func(s *api.TCP) { s.Body = s.Body[:4] }),
		with(func(s *api.TCP) { s.Body = append(s.Body, 0) }),
		with(func(s *api.TCP) { s.Body[0]++ }),
		with(func(s *api.TCP) { s.Body[4]++ }),
	} {
		if Same(s, sample()) || Same(sample(), s) {
			t.Errorf("%d: the same", i)
		}
		if !Same(s, s) {
			t.Errorf("%d: not the same as itself", i)
		}
	}
}

// P4.1
func TestFind(t *testing.T) {
	twice := of(opt(6, 0), api.Opt{Kind: 7, Data: []byte{1}}, api.Opt{Kind: 7, Data: []byte{2, 3}}, opt(300, 1))
	for i, c := range []struct {
		s    api.TCP
		kind int
		want []byte
		ok   bool
	}{
		{sample(), api.OptMss, []byte{0x05, 0xb4}, true},
		{sample(), api.OptScale, []byte{7}, true},
		{sample(), api.OptSackOK, nil, true},
		{sample(), 77, []byte{9, 8, 7}, true},
		{sample(), api.OptSack, nil, false},
		{sample(), api.OptStamp, nil, false},
		{sample(), 78, nil, false},
		{sample(), 0, nil, false},
		{sample(), 1, nil, false},
		{sample(), -1, nil, false},
		{sample(), 256 + 77, nil, false},
		{sample(), 77 - 256, nil, false},
		{sample(), math.MinInt, nil, false},
		{api.TCP{}, api.OptMss, nil, false},
		{api.TCP{}, 0, nil, false},
		// The first one of them.
		{twice, 7, []byte{1}, true},
		{twice, 6, nil, true},
		{twice, 300, []byte{3}, true},
		{twice, 44, nil, false},
	} {
		data, ok := Find(c.s, c.kind)
		if ok != c.ok || !bytes.Equal(data, c.want) {
			t.Errorf("%d: % x, %v instead of % x, %v", i, data, ok, c.want, c.ok)
		}
	}
}

// P4.1: what is found is new memory.
func TestFindLeaves(t *testing.T) {
	room := counted(9, 3)
	s := of(api.Opt{Kind: 7, Data: room[2:5]})
	data, _ := Find(s, 7)
	_ = append(data, 0xee, 0xee)
	clear(data)
	if !bytes.Equal(room, counted(9, 3)) {
		t.Errorf("the option was changed to % x", room)
	}
	again, _ := Find(s, 7)
	clear(room)
	if !bytes.Equal(again, counted(9, 3)[2:5]) {
		t.Errorf("what was found was changed to % x", again)
	}
}

// P4.1
func TestSize(t *testing.T) {
	for i, c := range []struct {
		s    api.TCP
		want int
	}{
		{api.TCP{}, 0},
		{api.TCP{Body: counted(7, 1)}, 7},
		{api.TCP{Flags: api.Syn}, 1},
		{api.TCP{Flags: api.Fin}, 1},
		{api.TCP{Flags: api.Syn | api.Fin}, 2},
		{api.TCP{Flags: api.Syn | api.Ack, Body: counted(3, 1)}, 4},
		{api.TCP{Flags: api.Fin | api.Ack, Body: counted(3, 1)}, 4},
		{api.TCP{Flags: 255, Body: counted(3, 1)}, 5},
		{api.TCP{Flags: 255 - api.Syn - api.Fin, Body: counted(3, 1)}, 3},
		{api.TCP{Flags: api.Rst | api.Psh | api.Ack | api.Urg | api.Ece | api.Cwr}, 0},
		{api.TCP{Flags: api.Fin, Body: counted(65515, 1)}, 65516},
		// Nothing else takes numbers.
		{api.TCP{Sport: 9, Dport: 9, Seq: 9, Ack: 9, Win: 9, Urg: 9, Opts: sample().Opts}, 0},
		{sample(), 6},
	} {
		if n := Size(c.s); n != c.want {
			t.Errorf("%d: %d instead of %d", i, n, c.want)
		}
	}
}

// P4.2
func TestParse(t *testing.T) {
	wide := bytes.Clone(slowly(here, there, sample()))
	wide[12] |= 15
	for i, c := range []struct {
		b    []byte
		want api.TCP
	}{
		{[]byte{0, 0, 0, 0, 0, 0, 0, 0, 0, 0, 0, 0, 0x50, 0, 0, 0, 0xe3, 0x34, 0, 0}, api.TCP{}},
		{
			[]byte{
				0x12, 0x34, 0x56, 0x78, 0x9a, 0xbc, 0xde, 0xf0, 0x13, 0x57, 0x9b, 0xdf, 0x90, 0x5a, 0x24, 0x68, 0xf7, 0xb4, 0xac, 0xe1,
				2, 4, 0x05, 0xb4, 3, 3, 7, 4, 2, 77, 5, 9, 8, 7, 0, 0, 11, 12, 13, 14, 15,
			},
			sample(),
		},
		// The four bits beside the length of the head don't count.
		{sealed(here, there, wide), sample()},
		{raw(nil, 1, 0), api.TCP{Body: []byte{1, 0}}},
	} {
		s, e := Parse(here, there, c.b)
		if e != api.OK {
			t.Errorf("%d: %d", i, e)
		}
		asItWas(t, s, c.want)
	}
}

// P4.2: what stands between options and behind them.
func TestParseOpts(t *testing.T) {
	mss, ok := api.Opt{Kind: 2, Data: []byte{5, 180}}, api.Opt{Kind: 4}
	for i, c := range []struct {
		opts []byte
		want []api.Opt
	}{
		{nil, nil},
		{[]byte{0, 0, 0, 0}, nil},
		{[]byte{1, 1, 1, 1}, nil},
		{[]byte{1, 1, 1, 0}, nil},
		{[]byte{2, 4, 5, 180}, []api.Opt{mss}},
		{[]byte{2, 4, 5, 180, 4, 2, 0, 0}, []api.Opt{mss, ok}},
		{[]byte{4, 2, 2, 4, 5, 180, 0, 0}, []api.Opt{ok, mss}},
		// Bytes 1 ahead, between and behind.
		{[]byte{1, 2, 4, 5, 180, 1, 4, 2}, []api.Opt{mss, ok}},
		{[]byte{1, 1, 4, 2, 1, 1, 2, 4, 5, 180, 1, 1}, []api.Opt{ok, mss}},
		{append(bytes.Repeat([]byte{1}, 38), 4, 2), []api.Opt{ok}},
		{append([]byte{4, 2}, bytes.Repeat([]byte{1}, 38)...), []api.Opt{ok}},
		// What stands behind a 0 doesn't count, whatever it is.
		{[]byte{4, 2, 0, 1}, []api.Opt{ok}},
		{[]byte{0, 4, 2, 1}, nil},
		{[]byte{4, 2, 0, 4, 2, 2, 4, 5}, []api.Opt{ok}},
		{[]byte{4, 2, 0, 2}, []api.Opt{ok}},
		{[]byte{4, 2, 0, 99, 0, 0, 0, 0}, []api.Opt{ok}},
		{[]byte{1, 0, 2, 1}, nil},
		{[]byte{0, 99, 99, 99}, nil},
		// Bytes 0 and 1 inside of an option are its own.
		{[]byte{6, 4, 0, 1, 4, 2, 1, 0}, []api.Opt{{Kind: 6, Data: []byte{0, 1}}, ok}},
		{[]byte{5, 10, 0, 0, 0, 0, 1, 1, 1, 1, 4, 2}, []api.Opt{{Kind: 5, Data: []byte{0, 0, 0, 0, 1, 1, 1, 1}}, ok}},
		// Options to the very end.
		{[]byte{6, 2, 6, 2}, []api.Opt{{Kind: 6}, {Kind: 6}}},
		{[]byte{254, 4, 1, 2, 255, 3, 9, 1}, []api.Opt{{Kind: 254, Data: []byte{1, 2}}, {Kind: 255, Data: []byte{9}}}},
		{append([]byte{255, 40}, counted(38, 1)...), []api.Opt{{Kind: 255, Data: counted(38, 1)}}},
		{append([]byte{1, 1, 5, 34}, append(counted(32, 1), 4, 2, 1, 1)...), []api.Opt{{Kind: 5, Data: counted(32, 1)}, ok}},
		{append([]byte{8, 10}, append(counted(8, 1), 3, 3, 9, 0, 0, 0)...), []api.Opt{{Kind: 8, Data: counted(8, 1)}, {Kind: 3, Data: []byte{9}}}},
	} {
		s, e := Parse(here, there, raw(c.opts, 7, 8, 9))
		if e != api.OK {
			t.Errorf("%d: %d", i, e)
		}
		asItWas(t, s, api.TCP{Opts: c.want, Body: []byte{7, 8, 9}})
	}
}

// P4.2: options that are none.
func TestParseOptErrors(t *testing.T) {
	list := [][]byte{
		// They end behind the head, though there are bytes of a body.
		{1, 1, 1, 4}, {1, 1, 1, 6}, {1, 1, 1, 255},
		{1, 1, 6, 3}, {1, 6, 4, 7}, {6, 5, 7, 7}, {6, 255, 7, 7}, {2, 4, 5, 180, 1, 8, 10, 1},
		{1, 2, 4, 5}, {1, 1, 2, 4}, {1, 1, 3, 3},
		// Their length is below 2.
		{6, 0, 0, 0}, {6, 1, 0, 0}, {1, 1, 6, 0}, {1, 1, 6, 1}, {4, 0, 0, 0}, {4, 1, 0, 0}, {2, 4, 5, 180, 255, 1, 1, 1},
		{2, 0, 0, 0}, {2, 1, 5, 180}, {8, 1, 1, 1}, {8, 0, 0, 0},
		// The kind was there.
		{4, 2, 4, 2}, {2, 4, 1, 1, 2, 4, 1, 1}, {3, 3, 1, 3, 3, 1, 0, 0}, {3, 3, 1, 1, 1, 3, 3, 1},
		append(append([]byte{8, 10}, make([]byte, 8)...), append([]byte{8, 10}, make([]byte, 8)...)...),
		append(append([]byte{5, 10}, make([]byte, 8)...), append([]byte{5, 18}, make([]byte, 16)...)...),
		{4, 2, 2, 4, 5, 180, 4, 2}, {4, 2, 6, 2, 6, 2, 4, 2},
		// A right one doesn't make up for one that isn't.
		{4, 2, 2, 3, 5, 0, 0, 0}, {2, 3, 5, 4, 2, 0, 0, 0},
	}
	// They have as many bytes as may not be.
	for kind, right := range map[byte][]int{2: {4}, 3: {3}, 4: {2}, 5: {10, 18, 26, 34}, 8: {10}} {
		for size := 2; size <= 40; size++ {
			if !slices.Contains(right, size) {
				opts := make([]byte, (size+3)/4*4)
				opts[0], opts[1] = kind, byte(size)
				list = append(list, opts)
			}
		}
	}
	for _, opts := range list {
		s, e := Parse(here, there, raw(opts, counted(300, 1)...))
		if e != api.ErrOpt || s.Opts != nil || s.Body != nil {
			t.Errorf("% x: %+v, %d", opts, s, e)
		}
		asItWas(t, s, api.TCP{})
	}
}

// P4.2: bytes that are none, one error each.
func TestParseErrors(t *testing.T) {
	set := func(b []byte, at int, x byte) []byte { c := bytes.Clone(b); c[at] = x; return c }
	plainOne, long := raw(nil, 1, 2, 3), raw(append([]byte{6, 40}, counted(38, 1)...), 1, 2, 3)
	for i, c := range []struct {
		b    []byte
		want api.Errno
	}{
		{nil, api.ErrShort},
		{[]byte{}, api.ErrShort},
		{[]byte{1}, api.ErrShort},
		{make([]byte, 13), api.ErrShort},
		{plainOne[:19], api.ErrShort},
		{long[:19], api.ErrShort},
		// The length of the head.
		{make([]byte, 20), api.ErrHead},
		{set(plainOne, 12, 0x4f), api.ErrHead},
		{set(plainOne, 12, 0x40), api.ErrHead},
		{set(plainOne, 12, 0x10), api.ErrHead},
		{set(plainOne, 12, 0x05), api.ErrHead},
		{set(plainOne, 12, 0x60), api.ErrHead},
		{set(plainOne, 12, 0xf0), api.ErrHead},
		{set(plainOne[:20], 12, 0x60), api.ErrHead},
		{long[:59], api.ErrHead},
		{long[:20], api.ErrHead},
		// The sum.
		{plainOne[:20], api.ErrSum},
		{plainOne[:22], api.ErrSum},
		{append(bytes.Clone(plainOne), 0), api.ErrSum},
		{long[:60], api.ErrSum},
		{set(plainOne, 0, 1), api.ErrSum},
		{set(plainOne, 12, 0x51), api.ErrSum},
		{set(plainOne, 16, plainOne[16]+1), api.ErrSum},
		{set(plainOne, 17, plainOne[17]-1), api.ErrSum},
		{set(plainOne, 20, 2), api.ErrSum},
		{set(plainOne, 22, 4), api.ErrSum},
		{set(long, 59, 0), api.ErrSum},
		{set(make([]byte, 20), 12, 0x50), api.ErrSum},
		// The whole length.
		{make([]byte, 65536), api.ErrLen},
		{make([]byte, 65537), api.ErrLen},
		{make([]byte, 1<<20), api.ErrLen},
		{raw(nil, counted(65516, 1)...), api.ErrLen},
		{append(raw(nil, counted(65515, 1)...), 0), api.ErrLen},
	} {
		s, e := Parse(here, there, c.b)
		if e != c.want {
			t.Errorf("%d: %d instead of %d", i, e, c.want)
		}
		asItWas(t, s, api.TCP{})
		if s.Opts != nil || s.Body != nil {
			t.Errorf("%d: lists that aren't nil", i)
		}
	}
}

// P4.2: the sum is that of both addresses, of the protocol and of the length as well.
func TestParseSum(t *testing.T) {
	b := slowly(here, there, sample())
	for _, c := range []struct{ src, dst uint32 }{
		{here + 1, there}, {here, there + 1}, {here - 1, there}, {here ^ 1<<31, there}, {here, there ^ 1<<31}, {0, 0}, {here + 1, there + 1},
	} {
		if s, e := Parse(c.src, c.dst, b); e != api.ErrSum {
			t.Errorf("from %08x to %08x: %+v, %d", c.src, c.dst, s, e)
		}
	}
	// Both sides count alike, so that what is sent back has the same sum.
	if s, e := Parse(there, here, b); e != api.OK || !Same(s, sample()) {
		t.Errorf("turned: %+v, %d", s, e)
	}
	// A sum without a pseudo head, or with that of another protocol, doesn't fit.
	for _, off := range []int{11, 20 + 6, 6, 20} {
		c := raw(nil)
		check := (int(c[16])<<8 | int(c[17])) + off
		c[16], c[17] = byte(check>>8), byte(check)
		if s, e := Parse(here, there, c); e != api.ErrSum {
			t.Errorf("off by %d: %+v, %d", off, s, e)
		}
	}
}

// P4.2: what just isn't an error.
func TestParseEdges(t *testing.T) {
	for i, c := range []struct {
		b    []byte
		want api.TCP
	}{
		{raw(nil), api.TCP{}},
		{raw(nil, counted(65515, 3)...), api.TCP{Body: counted(65515, 3)}},
		{raw(append([]byte{6, 40}, counted(38, 1)...)), of(api.Opt{Kind: 6, Data: counted(38, 1)})},
		{raw(append([]byte{6, 40}, counted(38, 1)...), counted(65475, 3)...), api.TCP{Opts: []api.Opt{{Kind: 6, Data: counted(38, 1)}}, Body: counted(65475, 3)}},
		{raw([]byte{6, 4, 1, 2}), of(api.Opt{Kind: 6, Data: []byte{1, 2}})},
	} {
		s, e := Parse(here, there, c.b)
		if e != api.OK {
			t.Errorf("%d: %d", i, e)
		}
		asItWas(t, s, c.want)
	}
}

// P4.2: of several errors the first is told.
func TestParseOrder(t *testing.T) {
	// Each fault is laid over bytes that have all the faults behind it.
	b := raw([]byte{6, 1, 0, 0})
	for _, c := range []struct {
		fault func()
		want  api.Errno
	}{
		{func() {}, api.ErrOpt},
		{func() { b[0]++ }, api.ErrSum},
		{func() { b[12] = 0x70 }, api.ErrHead},
		{func() { b[12] = 0x40 }, api.ErrHead},
		{func() { b = b[:19] }, api.ErrShort},
		{func() { b = append(b, make([]byte, 65536-19)...) }, api.ErrLen},
	} {
		c.fault()
		if s, e := Parse(here, there, b); e != c.want {
			t.Errorf("% x: %+v, %d instead of %d", b[:19], s, e, c.want)
		}
	}
}

// P4.2 and P4.3: any bytes have an answer, and one that is a segment may be put.
func TestParseOfAnything(t *testing.T) {
	chance := rand.New(rand.NewSource(42))
	seen := map[api.Errno]int{}
	for range 60000 {
		b := anyBytes(chance)
		s, e := Parse(here, there, b)
		seen[e]++
		if e != api.OK {
			asItWas(t, s, api.TCP{})
			continue
		}
		again, e := Put(here, there, s)
		if e != api.OK || !bytes.Equal(again, slowly(here, there, s)) || len(again) > len(b) {
			t.Errorf("% x is parsed as %+v, and put as % x, %d", b, s, again, e)
		}
		if q, e := Parse(here, there, again); e != api.OK || !Same(s, q) {
			t.Errorf("% x is parsed as %+v, then as %+v, %d", b, s, q, e)
		}
	}
	for _, e := range []api.Errno{api.OK, api.ErrShort, api.ErrHead, api.ErrSum, api.ErrOpt} {
		if seen[e] < 100 {
			t.Errorf("%d was answered %d times", e, seen[e])
		}
	}
}

// anyBytes are drawn, most of them near to a segment.
func anyBytes(chance *rand.Rand) []byte {
	b := make([]byte, chance.Intn(90))
	chance.Read(b)
	if len(b) < 20 || chance.Intn(8) == 0 {
		return b
	}
	words := 4 + chance.Intn(len(b)/4-3)
	b[12] = byte(min(words, 15)<<4 | chance.Intn(16))
	opts := b[20:max(20, int(b[12]>>4)*4)]
	for i := 0; i < len(opts); i += chance.Intn(4) + 1 {
		opts[i] = byte(chance.Intn(12))
	}
	for i := 0; i+1 < len(opts) && chance.Intn(12) > 0; i += int(opts[i+1]) {
		sizes := []byte{2, 4, 4, 3, 2, 10, 2, 3, 10, 2, 5, 6}
		opts[i] = byte(2 + chance.Intn(10))
		opts[i+1] = sizes[opts[i]]
	}
	if chance.Intn(8) == 0 {
		return b
	}
	return sealed(here, there, b)
}

// P4.2: what is handed in stays, and the answer's lists are new memory, each of its own.
func TestParseLeaves(t *testing.T) {
	b := append(slowly(here, there, sample()), 1, 2, 3, 4)
	before := bytes.Clone(b)
	s, _ := Parse(here, there, b[:len(b)-4])
	_ = append(s.Opts, api.Opt{Kind: 9})
	_ = append(s.Body, 0xee, 0xee)
	for _, o := range s.Opts {
		_ = append(o.Data, 0xee, 0xee, 0xee)
	}
	asItWas(t, s, sample())
	clear(s.Opts[0].Data)
	asItWas(t, s, with(func(s *api.TCP) { clear(s.Opts[0].Data) }))
	clear(s.Opts[1].Data)
	clear(s.Opts[3].Data)
	clear(s.Body)
	if !bytes.Equal(b, before) {
		t.Errorf("the bytes were changed to % x", b)
	}
	q, _ := Parse(here, there, b[:len(b)-4])
	clear(b)
	asItWas(t, q, sample())
}

// P4.3: what is put is parsed as it was.
func TestPutThenParse(t *testing.T) {
	for i, s := range someSegments() {
		src, dst := uint32(i)*0x9e3779b9, uint32(i)*0x85ebca6b+7
		b, e := Put(src, dst, s)
		if e != api.OK {
			t.Fatalf("%+v: %d", s, e)
		}
		q, e := Parse(src, dst, b)
		if e != api.OK || !Same(s, q) || Size(s) != Size(q) {
			t.Errorf("%+v is parsed as %+v, %d", s, q, e)
		}
		asItWas(t, q, s)
	}
}

// P4.3: what is parsed, put and parsed again is the same, though its bytes need not be.
func TestParseThenPut(t *testing.T) {
	for _, c := range []struct{ opts, again []byte }{
		{nil, nil},
		{[]byte{4, 2, 0, 0}, []byte{4, 2, 0, 0}},
		{[]byte{1, 1, 4, 2}, []byte{4, 2, 0, 0}},
		{[]byte{4, 2, 1, 1}, []byte{4, 2, 0, 0}},
		{[]byte{4, 2, 0, 99}, []byte{4, 2, 0, 0}},
		{[]byte{1, 1, 1, 1}, nil},
		{[]byte{0, 9, 9, 9}, nil},
		{[]byte{1, 4, 2, 1, 3, 3, 9, 1}, []byte{4, 2, 3, 3, 9, 0, 0, 0}},
		{append(bytes.Repeat([]byte{1}, 36), 2, 4, 5, 180), []byte{2, 4, 5, 180}},
	} {
		s, e := Parse(here, there, raw(c.opts, 1, 2, 3))
		if e != api.OK {
			t.Fatalf("% x: %d", c.opts, e)
		}
		b, e := Put(here, there, s)
		if e != api.OK || !bytes.Equal(b, raw(c.again, 1, 2, 3)) {
			t.Errorf("% x is put as % x, %d", c.opts, b, e)
		}
		if q, e := Parse(here, there, b); e != api.OK || !Same(s, q) {
			t.Errorf("% x is parsed as %+v, then as %+v, %d", c.opts, s, q, e)
		}
	}
}

// P4.3: a check sum of 65535 where 0 would do is taken, and put as 0.
func TestTwoNoughts(t *testing.T) {
	want := api.TCP{Sport: 65535 - 6 - 20 - 0x5000}
	b, _ := Put(0, 0, want)
	other := bytes.Clone(b)
	other[16], other[17] = 0xff, 0xff
	for _, x := range [][]byte{b, other} {
		s, e := Parse(0, 0, x)
		if e != api.OK {
			t.Fatalf("% x: %d", x, e)
		}
		asItWas(t, s, want)
		if again, e := Put(0, 0, s); e != api.OK || !bytes.Equal(again, b) {
			t.Errorf("% x is put as % x, %d", x, again, e)
		}
	}
}
