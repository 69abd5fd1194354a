package reasm

import (
	"bytes"
	"fmt"
	"math"
	"math/rand"
	"slices"
	"testing"

	"casemate/api"
	"casemate/ip"
)

// counted are as many bytes as are asked, no two beside one another alike.
func counted(n, step int) []byte {
	b := make([]byte, n)
	for i := range b {
		b[i] = byte((i + 1) * step)
	}
	return b
}

// run is a run of bytes that its place tells.
func run(off, n int) api.Run { return api.Run{Off: off, Data: counted(n, off+3)} }

// piece is one of the packet of an ID, its bytes as those of run.
func piece(id, off, n int, more bool) api.IP {
	return api.IP{TOS: off % 7, ID: id, MF: more, Off: off, TTL: 64, Proto: 17, Src: 0x0a000001, Dst: 0x08080808, Opts: counted(max(off, 0)%3*4, 9), Body: counted(n, off+3)}
}

// buffer is a packet of an ID with some runs, of which where it ends is not known, with the head that piece makes, if it has one.
func buffer(id, born int, runs ...api.Run) api.Buffer {
	b := api.Buffer{Src: 0x0a000001, Dst: 0x08080808, ID: id, Proto: 17, Born: born, Total: -1, Runs: runs}
	if len(runs) > 0 && runs[0].Off == 0 {
		b.First = true
		b.Head = api.IP{ID: id, TTL: 64, Proto: 17, Src: 0x0a000001, Dst: 0x08080808}
	}
	return b
}

// ending is a packet of which it is known where it ends.
func ending(b api.Buffer, total int) api.Buffer {
	b.Total = total
	return b
}

// pool is one with some packets.
func pool(list ...api.Buffer) api.Pool {
	return api.Pool{Room: 1 << 16, Life: 30, Now: 100, List: list}
}

// sample is a pool of three packets: one with its head, one of which the end is known, one with neither.
func sample() api.Pool {
	first := buffer(1, 80, run(0, 16), run(24, 8), run(32, 24))
	first.Head.TOS, first.Head.DF, first.Head.Opts = 5, true, counted(8, 1)
	return pool(first, ending(buffer(2, 90, run(8, 8), run(32, 5)), 37), buffer(3, 100, run(40, 16)))
}

// with is the sample, changed.
func with(change func(p *api.Pool)) api.Pool {
	p := sample()
	change(&p)
	return p
}

// many is a pool of so many packets, each with a run of 8 bytes.
func many(n int) api.Pool {
	p := pool()
	for id := range n {
		p.List = append(p.List, buffer(id, id, run(8, 8)))
	}
	return p
}

// told is all that stands in a pool, a nil list and an empty one alike.
func told(p api.Pool) string { return fmt.Sprintf("%+v", p) }

// asItWas fails if a pool isn't the one that is asked for.
func asItWas(t *testing.T, got, want api.Pool) {
	t.Helper()
	if told(got) != told(want) {
		t.Errorf("%+v isn't %+v", got, want)
	}
}

// isNothing fails if a packet has something in it.
func isNothing(t *testing.T, x api.IP) {
	t.Helper()
	if !ip.Same(x, api.IP{}) || x.Opts != nil || x.Body != nil {
		t.Errorf("%+v is something", x)
	}
}

// spoil changes all bytes of a pool, and what stands in its lists and in their spare room.
func spoil(p api.Pool) {
	for _, b := range p.List {
		spoilBytes(b.Head.Opts)
		spoilBytes(b.Head.Body)
		for _, r := range b.Runs {
			spoilBytes(r.Data)
		}
		clear(b.Runs[:cap(b.Runs)])
	}
	clear(p.List[:cap(p.List)])
}

// spoilBytes changes bytes and their spare room.
func spoilBytes(b []byte) {
	b = b[:cap(b)]
	for i := range b {
		b[i] ^= 0x5a
	}
}

// P7.1
func TestNew(t *testing.T) {
	for _, room := range []int{1, 2, 40, 1<<20 - 1, 1 << 20} {
		for _, life := range []int{1, 2, 30, 1<<20 - 1, 1 << 20} {
			p, e := New(room, life)
			if e != api.OK || !Right(p) || Held(p) != 0 {
				t.Errorf("%d, %d: %+v, %d", room, life, p, e)
			}
			asItWas(t, p, api.Pool{Room: room, Life: life})
		}
	}
}

// P7.1: a room or a life that may not be.
func TestNewErrors(t *testing.T) {
	for _, bad := range []int{0, -1, -40, 1<<20 + 1, 1 << 21, 1 << 32, math.MaxInt, math.MinInt} {
		for _, c := range [][2]int{{bad, 1}, {1, bad}, {bad, 1 << 20}, {1 << 20, bad}, {bad, bad}} {
			p, e := New(c[0], c[1])
			if e != api.ErrArg {
				t.Errorf("%d: %d", c, e)
			}
			asItWas(t, p, api.Pool{})
		}
	}
}

// P7.1: pools that are right, each part at its edges.
func TestRight(t *testing.T) {
	full := many(64)
	full.Room = 64 * 8
	for i, p := range []api.Pool{
		sample(), pool(), many(1), many(63), many(64), full,
		{Room: 1, Life: 1}, {Room: 1 << 20, Life: 1 << 20, Now: 1 << 40, List: []api.Buffer{}},
		with(func(p *api.Pool) { p.Room = 77 }),
		// Times.
		with(func(p *api.Pool) { p.List[0].Born = 0 }),
		with(func(p *api.Pool) { p.List[0].Born, p.Life = 0, 1 }),
		with(func(p *api.Pool) { p.Now = 1 << 40; p.List[0].Born = 1 << 40 }),
		pool(buffer(1, 0, run(0, 8)), buffer(2, 100, run(8, 1))),
		// Two that differ in one part of their names alone.
		with(func(p *api.Pool) { p.List[1].ID = 1; p.List[1].Src++ }),
		with(func(p *api.Pool) { p.List[1].ID = 1; p.List[1].Dst++ }),
		with(func(p *api.Pool) { p.List[1].ID = 1; p.List[1].Proto++ }),
		// Nothing is asked of an ID or a protocol but that.
		with(func(p *api.Pool) { p.List[1].ID, p.List[1].Proto = -5, math.MaxInt }),
		// Runs: side by side, apart, of any length.
		pool(buffer(1, 1, run(0, 8), run(8, 8), run(16, 1))),
		pool(buffer(1, 1, run(8, 3), run(16, 13), run(32, 1))),
		pool(buffer(1, 1, run(0, 65535))),
		pool(buffer(1, 1, run(65528, 7))),
		pool(ending(buffer(1, 1, run(65528, 7)), 65535)),
		pool(ending(buffer(1, 1, run(0, 1)), 1)),
		pool(ending(buffer(1, 1, run(0, 1)), 65535)),
		pool(ending(buffer(1, 1, run(16, 8)), 24)),
		// All is there: nothing is said against it.
		pool(ending(buffer(1, 1, run(0, 8), run(8, 8)), 16)),
		// Heads: 40 bytes of options, and of the rest nothing is asked.
		with(func(p *api.Pool) { p.List[0].Head.Opts = make([]byte, 40) }),
		with(func(p *api.Pool) { p.List[0].Head.Opts = make([]byte, 39) }),
		with(func(p *api.Pool) { p.List[0].Head.Opts = nil }),
		with(func(p *api.Pool) { p.List[0].Head = api.IP{} }),
		with(func(p *api.Pool) {
			p.List[0].Head = api.IP{TOS: -1, ID: 1 << 20, TTL: 300, Proto: -9, Src: 7, Dst: 8, Body: []byte{}}
		}),
		with(func(p *api.Pool) { p.List[1].Head = api.IP{Opts: []byte{}, Body: []byte{}} }),
	} {
		if !Right(p) {
			t.Errorf("%d: %+v isn't right", i, p)
		}
	}
}

// P7.1: pools that are not right, each by one thing.
func TestNotRight(t *testing.T) {
	over := many(64)
	over.Room = 64*8 - 1
	for i, p := range []api.Pool{
		{}, many(65), over,
		with(func(p *api.Pool) { p.Room = 0 }),
		with(func(p *api.Pool) { p.Room = -1 }),
		with(func(p *api.Pool) { p.Room = 1<<20 + 1 }),
		with(func(p *api.Pool) { p.Room = math.MinInt }),
		with(func(p *api.Pool) { p.Room = 76 }),
		with(func(p *api.Pool) { p.Life = 0 }),
		with(func(p *api.Pool) { p.Life = -1 }),
		with(func(p *api.Pool) { p.Life = 1<<20 + 1 }),
		with(func(p *api.Pool) { p.Now = 99 }),
		with(func(p *api.Pool) { p.Now = 1<<40 + 1 }),
		{Room: 1, Life: 1, Now: -1},
		// Times.
		with(func(p *api.Pool) { p.List[0].Born = -1 }),
		with(func(p *api.Pool) { p.List[0].Born = 101 }),
		with(func(p *api.Pool) { p.List[2].Born = math.MinInt }),
		// Two of one name, side by side and apart.
		with(func(p *api.Pool) { p.List[1].ID = 1 }),
		with(func(p *api.Pool) { p.List[2].ID = 2 }),
		with(func(p *api.Pool) { p.List[2].ID = 1 }),
		// Runs.
		with(func(p *api.Pool) { p.List[1].Runs = nil }),
		with(func(p *api.Pool) { p.List[2].Runs = []api.Run{} }),
		with(func(p *api.Pool) { p.List[0].Runs[0].Data = nil }),
		with(func(p *api.Pool) { p.List[0].Runs[2].Data = []byte{} }),
		with(func(p *api.Pool) { p.List[2].Runs[0].Off = 41 }),
		with(func(p *api.Pool) { p.List[2].Runs[0].Off = 44 }),
		with(func(p *api.Pool) { p.List[2].Runs[0].Off = -8 }),
		with(func(p *api.Pool) { p.List[2].Runs[0].Off = math.MinInt }),
		with(func(p *api.Pool) { p.List[2].Runs[0].Off = math.MaxInt - 7 }),
		with(func(p *api.Pool) { p.List[2].Runs[0].Off = 65536 }),
		with(func(p *api.Pool) { p.List[0].Runs[1].Off = 8 }),
		with(func(p *api.Pool) { p.List[0].Runs[1].Off = 0 }),
		with(func(p *api.Pool) { p.List[0].Runs[1].Data = counted(9, 1) }),
		with(func(p *api.Pool) { p.List[0].Runs[0].Data = counted(25, 1) }),
		with(func(p *api.Pool) { slices.Reverse(p.List[1].Runs) }),
		with(func(p *api.Pool) { slices.Reverse(p.List[0].Runs[1:]) }),
		pool(buffer(1, 1, run(65528, 8))),
		pool(buffer(1, 1, run(0, 65536))),
		pool(buffer(1, 1, run(0, 70000))),
		// Where it ends.
		with(func(p *api.Pool) { p.List[1].Total = 36 }),
		with(func(p *api.Pool) { p.List[1].Total = 8 }),
		with(func(p *api.Pool) { p.List[1].Total = 0 }),
		with(func(p *api.Pool) { p.List[1].Total = -2 }),
		with(func(p *api.Pool) { p.List[1].Total = 65536 }),
		with(func(p *api.Pool) { p.List[1].Total = math.MaxInt }),
		with(func(p *api.Pool) { p.List[1].Total = math.MinInt }),
		pool(ending(buffer(1, 1, run(0, 8)), 0)),
		// The head.
		with(func(p *api.Pool) { p.List[0].First = false }),
		with(func(p *api.Pool) { p.List[0].First, p.List[0].Head = false, api.IP{} }),
		with(func(p *api.Pool) { p.List[1].First = true }),
		with(func(p *api.Pool) { p.List[0].Head.MF = true }),
		with(func(p *api.Pool) { p.List[0].Head.Off = 8 }),
		with(func(p *api.Pool) { p.List[0].Head.Off = -8 }),
		with(func(p *api.Pool) { p.List[0].Head.Body = []byte{1} }),
		with(func(p *api.Pool) { p.List[0].Head.Opts = make([]byte, 41) }),
		with(func(p *api.Pool) { p.List[0].Head.Opts = make([]byte, 44) }),
		with(func(p *api.Pool) { p.List[1].Head.TOS = 1 }),
		with(func(p *api.Pool) { p.List[1].Head.ID = 2 }),
		with(func(p *api.Pool) { p.List[1].Head.DF = true }),
		with(func(p *api.Pool) { p.List[1].Head.TTL = 1 }),
		with(func(p *api.Pool) { p.List[2].Head.Src = 1 }),
		with(func(p *api.Pool) { p.List[2].Head.Opts = []byte{0} }),
		with(func(p *api.Pool) { p.List[2].Head.Body = []byte{0} }),
	} {
		if Right(p) {
			t.Errorf("%d: %+v is right", i, p)
		}
		// Nothing is done in it.
		before := told(p)
		for _, x := range []api.IP{piece(1, 64, 8, true), piece(9, 8, 8, true), piece(2, 8, 8, true)} {
			n, y, ok, e := Take(p, x)
			if ok || e != api.ErrArg || told(n) != before {
				t.Errorf("%d: %+v, %t, %d", i, n, ok, e)
			}
			isNothing(t, y)
		}
		if n, gone, e := Tick(p, 1000); gone != 0 || e != api.ErrArg || told(n) != before || told(p) != before {
			t.Errorf("%d: %+v, %d, %d", i, n, gone, e)
		}
	}
}

// slowlyRight is Right, of small numbers, byte by byte.
func slowlyRight(p api.Pool) bool {
	fits := p.Room >= 1 && p.Room <= 1<<20 && p.Life >= 1 && p.Life <= 1<<20 && p.Now >= 0 && p.Now <= 1<<40 && len(p.List) <= 64
	names, n := map[string]bool{}, 0
	for _, b := range p.List {
		name := fmt.Sprint(b.Src, b.Dst, b.ID, b.Proto)
		fits = fits && !names[name] && b.Born >= 0 && b.Born <= p.Now && len(b.Runs) > 0
		names[name] = true
		fits = fits && (b.Total == -1 || b.Total >= 1 && b.Total <= 65535)
		there, behind, first := map[int]bool{}, 0, false
		for _, r := range b.Runs {
			fits = fits && len(r.Data) > 0 && r.Off >= 0 && r.Off%8 == 0 && r.Off >= behind
			for at := range r.Data {
				place := r.Off + at
				fits = fits && !there[place] && place < 65535 && (b.Total == -1 || place < b.Total)
				there[place], behind = true, place
				n++
			}
			first = first || r.Off == 0
		}
		fits = fits && first == b.First && len(b.Head.Body) == 0 && !b.Head.MF && b.Head.Off == 0 && len(b.Head.Opts) <= 40
		if !b.First {
			fits = fits && fmt.Sprint(b.Head) == fmt.Sprint(api.IP{})
		}
	}
	return fits && n <= p.Room
}

// drawnPool is one that is right, or nearly.
func drawnPool(chance *rand.Rand) api.Pool {
	p := api.Pool{Room: 1 + chance.Intn(300), Life: 1 + chance.Intn(9), Now: chance.Intn(20)}
	for id := range chance.Intn(4) {
		b := api.Buffer{ID: id, Born: chance.Intn(p.Now + 1), Total: -1}
		off := chance.Intn(2) * 8
		b.First = off == 0
		for range 1 + chance.Intn(3) {
			n := 8 * (1 + chance.Intn(2))
			b.Runs = append(b.Runs, run(off, n))
			off += n + 8*chance.Intn(2)
		}
		if chance.Intn(2) == 0 {
			b.Total = off + chance.Intn(2)*chance.Intn(9)
		}
		if b.First {
			b.Head = api.IP{TTL: chance.Intn(260), Opts: counted(chance.Intn(11)*4, 1)}
		}
		switch k := chance.Intn(len(b.Runs)); chance.Intn(30) {
		case 0:
			b.Runs[k].Data = nil
		case 1:
			b.Runs[k].Off += chance.Intn(17) - 8
		case 2:
			b.First = !b.First
		case 3:
			b.Head.TOS = chance.Intn(2)
		case 4:
			b.Runs[k].Data = counted(chance.Intn(20), 3)
		case 5:
			b.ID = 0
		case 6:
			b.Born++
		case 7:
			b.Total -= chance.Intn(16)
		}
		p.List = append(p.List, b)
	}
	return p
}

// P7.1 to P7.3: any pool has an answer; of one that is not right it stays as it is, and one that is right stays right.
func TestAnyPool(t *testing.T) {
	chance := rand.New(rand.NewSource(71))
	seen := map[string]int{}
	for range 40000 {
		p := drawnPool(chance)
		before, right := told(p), slowlyRight(p)
		if Right(p) != right {
			t.Fatalf("%s: %t", before, !right)
		}
		x := api.IP{ID: chance.Intn(4), Off: 8 * chance.Intn(6), MF: true, Body: counted(8*(1+chance.Intn(2)), 5)}
		if x.Off > 0 && chance.Intn(2) == 0 {
			x.MF, x.Body = false, x.Body[chance.Intn(8):]
		}
		n, _, ok, e := Take(p, x)
		if Right(n) != right || right == (e == api.ErrArg) || ok && e != api.OK || (!right || e == api.ErrFull) && told(n) != before {
			t.Fatalf("%s with %+v: %s, %t, %d", before, x, told(n), ok, e)
		}
		m, _, e2 := Tick(p, p.Now+chance.Intn(9))
		if Right(m) != right || right != (e2 == api.OK) || !right && told(m) != before {
			t.Fatalf("%s: %s, %d", before, told(m), e2)
		}
		if told(p) != before {
			t.Fatalf("%s was changed to %s", before, told(p))
		}
		seen[fmt.Sprint(right, ok, e)]++
	}
	for _, what := range []string{"false false 1", "true false 0", "true false 7", "true false 8", "true true 0"} {
		if seen[what] < 100 {
			t.Errorf("%s: %d times, of %v", what, seen[what], seen)
		}
	}
}

// P7.1: the bytes of all runs, whatever else stands in a pool.
func TestHeld(t *testing.T) {
	for i, c := range []struct {
		p    api.Pool
		want int
	}{
		{api.Pool{}, 0}, {pool(), 0}, {sample(), 77}, {many(64), 512}, {many(70), 560}, {pool(buffer(1, 1)), 0},
		{pool(buffer(1, 1, run(0, 70000), run(0, 1), api.Run{}), buffer(1, 1, run(3, 2))), 70003},
		{with(func(p *api.Pool) { p.Room, p.List[0].Head.Body = -1, counted(9, 1) }), 77},
	} {
		if n := Held(c.p); n != c.want {
			t.Errorf("%d: %d instead of %d", i, n, c.want)
		}
	}
}

// P7.1: what is Life or more old is gone, what is younger stays, in its order.
func TestTick(t *testing.T) {
	for i, c := range []struct {
		now  int
		left []int
	}{
		{100, []int{0, 1, 2}}, {101, []int{0, 1, 2}}, {109, []int{0, 1, 2}}, {110, []int{1, 2}}, {111, []int{1, 2}}, {119, []int{1, 2}},
		{120, []int{2}}, {129, []int{2}}, {130, nil}, {131, nil}, {1 << 40, nil},
	} {
		n, gone, e := Tick(sample(), c.now)
		want := sample()
		want.Now, want.List = c.now, nil
		for _, at := range c.left {
			want.List = append(want.List, sample().List[at])
		}
		if e != api.OK || gone != 3-len(c.left) || !Right(n) {
			t.Errorf("%d: %d, %d", i, gone, e)
		}
		asItWas(t, n, want)
	}
	// The order isn't that of their ages, and one is over already.
	p := with(func(p *api.Pool) { p.List[0].Born, p.List[1].Born, p.List[2].Born = 95, 10, 95 })
	n, gone, e := Tick(p, 100)
	if e != api.OK || gone != 1 {
		t.Errorf("%d, %d", gone, e)
	}
	asItWas(t, n, pool(p.List[0], p.List[2]))
	n, gone, e = Tick(api.Pool{Room: 1, Life: 1, List: []api.Buffer{buffer(1, 0, run(0, 1))}}, 0)
	if e != api.OK || gone != 0 || len(n.List) != 1 {
		t.Errorf("%+v, %d, %d", n, gone, e)
	}
}

// P7.1: times that may not be.
func TestTickErrors(t *testing.T) {
	for _, now := range []int{99, 0, -1, math.MinInt, 1<<40 + 1, 1 << 41, math.MaxInt} {
		n, gone, e := Tick(sample(), now)
		if gone != 0 || e != api.ErrArg {
			t.Errorf("%d: %d, %d", now, gone, e)
		}
		asItWas(t, n, sample())
	}
	last := api.Pool{Room: 5, Life: 5, Now: 1 << 40}
	if n, _, e := Tick(last, 1<<40); e != api.OK || told(n) != told(last) {
		t.Errorf("%+v, %d", n, e)
	}
}

// P7.2: what is no piece goes through any pool.
func TestTakeNoPiece(t *testing.T) {
	for _, p := range []api.Pool{sample(), pool(), {}, many(65), with(func(p *api.Pool) { p.List[0].Runs = nil })} {
		for _, x := range []api.IP{
			{}, {TTL: 3, Body: []byte{1}}, {DF: true, Opts: counted(8, 3), Body: counted(70000, 1)}, {TOS: -1, TTL: 999, Opts: counted(41, 1)},
			// Its name is that of a packet that is put together.
			piece(1, 0, 8, false), piece(2, 0, 40, false),
		} {
			before := fmt.Sprint(x)
			n, y, ok, e := Take(p, x)
			if !ok || e != api.OK || fmt.Sprint(y) != before {
				t.Errorf("%+v, %t, %d instead of %s", y, ok, e, before)
			}
			asItWas(t, n, p)
		}
	}
}

// P7.2: pieces that may not be put, or have no body.
func TestTakeErrArg(t *testing.T) {
	for i, x := range []api.IP{
		piece(1, 64, 0, false), piece(9, 8, 0, false), piece(9, 0, 0, true), {Off: 8}, {MF: true},
		piece(1, 64, 7, true), piece(1, 64, 9, true), piece(9, 0, 1, true),
		piece(1, 65, 8, true), piece(1, 68, 8, false), piece(1, -8, 8, true), piece(1, 65536, 8, false), piece(1, math.MinInt, 8, false),
		piece(1, 65528, 1, false), piece(1, 65520, 8, false), piece(1, 8, 65536, true),
		piece(-1, 8, 8, true), piece(65536, 8, 8, true),
		{MF: true, TOS: 256, Body: counted(8, 1)}, {MF: true, TTL: -1, Body: counted(8, 1)}, {MF: true, Proto: 256, Body: counted(8, 1)},
		{MF: true, Opts: counted(3, 1), Body: counted(8, 1)}, {MF: true, Opts: counted(44, 1), Body: counted(8, 1)},
	} {
		n, y, ok, e := Take(sample(), x)
		if ok || e != api.ErrArg {
			t.Errorf("%d: %+v: %t, %d", i, x, ok, e)
		}
		isNothing(t, y)
		asItWas(t, n, sample())
	}
}

// P7.2: a packet is begun behind the others, with the head if its first piece came, and with the end if its last one did.
func TestTakeBegins(t *testing.T) {
	for i, c := range []struct {
		x    api.IP
		want api.Buffer
	}{
		{piece(9, 8, 16, true), api.Buffer{Total: -1, Runs: []api.Run{run(8, 16)}}},
		{piece(9, 8, 5, false), api.Buffer{Total: 13, Runs: []api.Run{run(8, 5)}}},
		{piece(9, 64, 1, false), api.Buffer{Total: 65, Runs: []api.Run{run(64, 1)}}},
		{piece(9, 0, 8, true), api.Buffer{Total: -1, First: true, Head: api.IP{ID: 9, TTL: 64, Proto: 17, Src: 0x0a000001, Dst: 0x08080808}, Runs: []api.Run{run(0, 8)}}},
	} {
		for _, p := range []api.Pool{pool(), sample(), many(9), many(8)} {
			n, y, ok, e := Take(p, c.x)
			if ok || e != api.OK || !Right(n) {
				t.Errorf("%d: %t, %d", i, ok, e)
			}
			isNothing(t, y)
			c.want.Src, c.want.Dst, c.want.ID, c.want.Proto, c.want.Born = 0x0a000001, 0x08080808, 9, 17, 100
			p.List = append(p.List, c.want)
			asItWas(t, n, p)
		}
	}
	// All of the head is kept but what tells of a piece.
	x := api.IP{TOS: 3, ID: 0xffff, DF: true, MF: true, TTL: 255, Proto: 255, Src: 1, Dst: 2, Opts: counted(40, 1), Body: counted(8, 3)}
	n, _, _, e := Take(pool(), x)
	head := api.IP{TOS: 3, ID: 0xffff, DF: true, TTL: 255, Proto: 255, Src: 1, Dst: 2, Opts: counted(40, 1)}
	if e != api.OK || len(n.List) != 1 || !ip.Same(n.List[0].Head, head) {
		t.Errorf("%+v, %d", n, e)
	}
}

// P7.2: pieces belong together by four things, and by nothing else.
func TestTakeNames(t *testing.T) {
	p, _, _, e := Take(pool(), piece(7, 8, 8, true))
	if e != api.OK {
		t.Fatal(e)
	}
	for i, change := range []func(x *api.IP){
		func(x *api.IP) { x.Src++ }, func(x *api.IP) { x.Dst++ }, func(x *api.IP) { x.ID++ }, func(x *api.IP) { x.Proto++ },
		func(x *api.IP) { x.Src, x.Dst = x.Dst, x.Src }, func(x *api.IP) { x.ID, x.Proto = x.Proto, x.ID },
	} {
		// It would clash, if it were one of the same packet.
		x := piece(7, 8, 8, false)
		change(&x)
		n, _, ok, e := Take(p, x)
		if ok || e != api.OK || len(n.List) != i+2 {
			t.Errorf("%d: %+v, %t, %d", i, n, ok, e)
		}
		p = n
	}
	x := piece(7, 0, 8, true)
	x.TOS, x.DF, x.TTL, x.Opts = 99, true, 1, counted(12, 5)
	n, _, ok, e := Take(p, x)
	if ok || e != api.OK || len(n.List) != len(p.List) || len(n.List[0].Runs) != 2 {
		t.Errorf("%+v, %t, %d", n, ok, e)
	}
}

// P7.2: a piece that doesn't clash stands in its place.
func TestTakeInOrder(t *testing.T) {
	base := buffer(4, 70, run(16, 8), run(40, 16), run(64, 8))
	for i, c := range []struct {
		x     api.IP
		runs  []api.Run
		total int
	}{
		{piece(4, 0, 8, true), []api.Run{run(0, 8), run(16, 8), run(40, 16), run(64, 8)}, -1},
		{piece(4, 0, 16, true), []api.Run{run(0, 16), run(16, 8), run(40, 16), run(64, 8)}, -1},
		{piece(4, 8, 8, true), []api.Run{run(8, 8), run(16, 8), run(40, 16), run(64, 8)}, -1},
		{piece(4, 24, 8, true), []api.Run{run(16, 8), run(24, 8), run(40, 16), run(64, 8)}, -1},
		{piece(4, 24, 16, true), []api.Run{run(16, 8), run(24, 16), run(40, 16), run(64, 8)}, -1},
		{piece(4, 32, 8, true), []api.Run{run(16, 8), run(32, 8), run(40, 16), run(64, 8)}, -1},
		{piece(4, 56, 8, true), []api.Run{run(16, 8), run(40, 16), run(56, 8), run(64, 8)}, -1},
		{piece(4, 72, 8, true), []api.Run{run(16, 8), run(40, 16), run(64, 8), run(72, 8)}, -1},
		{piece(4, 800, 8, true), []api.Run{run(16, 8), run(40, 16), run(64, 8), run(800, 8)}, -1},
		{piece(4, 72, 1, false), []api.Run{run(16, 8), run(40, 16), run(64, 8), run(72, 1)}, 73},
		{piece(4, 96, 30, false), []api.Run{run(16, 8), run(40, 16), run(64, 8), run(96, 30)}, 126},
	} {
		p := pool(buffer(3, 1, run(8, 8)), base, buffer(5, 1, run(8, 8)))
		n, y, ok, e := Take(p, c.x)
		if ok || e != api.OK || !Right(n) {
			t.Errorf("%d: %t, %d", i, ok, e)
		}
		isNothing(t, y)
		asItWas(t, n, pool(p.List[0], ending(buffer(4, 70, c.runs...), c.total), p.List[2]))
	}
}

// P7.2: where it is known where the packet ends, a piece that ends there or ahead of it is taken.
func TestTakeUpToTheEnd(t *testing.T) {
	// That no run ends there is not asked of a pool.
	p := pool(ending(buffer(4, 70, run(8, 8)), 32))
	for i, x := range []api.IP{piece(4, 16, 8, true), piece(4, 24, 8, true), piece(4, 16, 16, true), piece(4, 0, 8, true)} {
		if n, _, ok, e := Take(p, x); ok || e != api.OK || len(n.List) != 1 || len(n.List[0].Runs) != 2 || n.List[0].Total != 32 {
			t.Errorf("%d: %+v, %t, %d", i, n, ok, e)
		}
	}
}

// P7.2: what clashes takes its packet with it, and no other one.
func TestTakeErrFrag(t *testing.T) {
	open := buffer(4, 70, run(16, 16), run(48, 8))
	ended := ending(buffer(4, 70, run(16, 16), run(48, 5)), 53)
	gap := ending(buffer(4, 70, run(8, 8)), 32)
	for i, c := range []struct {
		b api.Buffer
		x api.IP
	}{
		// They overlap: as a whole, with the first bytes, with the last ones, within, and around.
		{open, piece(4, 16, 16, true)}, {open, piece(4, 16, 8, true)}, {open, piece(4, 24, 8, true)}, {open, piece(4, 8, 16, true)},
		{open, piece(4, 24, 16, true)}, {open, piece(4, 8, 32, true)}, {open, piece(4, 0, 24, true)}, {open, piece(4, 0, 800, true)},
		{open, piece(4, 48, 8, true)}, {open, piece(4, 40, 16, true)}, {open, piece(4, 48, 80, true)}, {open, piece(4, 32, 24, true)},
		{open, piece(4, 48, 8, false)}, {open, piece(4, 48, 9, false)}, {open, piece(4, 40, 40, false)},
		// A last piece, and a run ends behind it.
		{open, piece(4, 8, 8, false)}, {open, piece(4, 8, 1, false)}, {open, piece(4, 32, 16, false)}, {open, piece(4, 40, 1, false)}, {open, piece(4, 40, 8, false)},
		// Two last pieces.
		{ended, piece(4, 56, 8, false)}, {ended, piece(4, 48, 5, false)}, {ended, piece(4, 8, 8, false)}, {ended, piece(4, 32, 1, false)}, {ended, piece(4, 640, 9, false)},
		{gap, piece(4, 16, 16, false)}, {gap, piece(4, 24, 8, false)}, {gap, piece(4, 24, 1, false)},
		// It ends behind where the packet ends.
		{ended, piece(4, 56, 8, true)}, {ended, piece(4, 640, 8, true)}, {ended, piece(4, 40, 16, true)},
		{gap, piece(4, 32, 8, true)}, {gap, piece(4, 24, 16, true)}, {gap, piece(4, 16, 24, true)},
		// It would be whole already.
		{ending(buffer(4, 70, run(0, 8)), 8), piece(4, 8, 8, true)}, {ending(buffer(4, 70, run(0, 8)), 8), piece(4, 0, 8, true)},
	} {
		for at := range 3 {
			p := many(2)
			p.List = slices.Insert(p.List, at, c.b)
			n, y, ok, e := Take(p, c.x)
			if ok || e != api.ErrFrag || !Right(n) {
				t.Errorf("%d: %t, %d", i, ok, e)
			}
			isNothing(t, y)
			asItWas(t, n, many(2))
		}
	}
}

// P7.2: no room for a packet, or for bytes.
func TestTakeErrFull(t *testing.T) {
	tight := with(func(p *api.Pool) { p.Room = 77 + 16 })
	for i, c := range []struct {
		p    api.Pool
		x    api.IP
		want api.Errno
	}{
		{many(64), piece(64, 8, 8, true), api.ErrFull},
		{many(64), piece(64, 0, 8, true), api.ErrFull},
		{many(64), piece(64, 8, 1, false), api.ErrFull},
		{many(64), piece(63, 16, 8, true), api.OK},
		{many(64), piece(0, 16, 1, false), api.OK},
		{many(63), piece(64, 8, 8, true), api.OK},
		{tight, piece(9, 8, 16, true), api.OK},
		{tight, piece(9, 8, 24, true), api.ErrFull},
		{tight, piece(9, 8, 17, false), api.ErrFull},
		{tight, piece(3, 56, 16, true), api.OK},
		{tight, piece(3, 56, 16, false), api.OK},
		{tight, piece(3, 56, 17, false), api.ErrFull},
		{tight, piece(3, 0, 24, true), api.ErrFull},
		{api.Pool{Room: 7, Life: 1}, piece(1, 0, 8, true), api.ErrFull},
		{api.Pool{Room: 8, Life: 1}, piece(1, 0, 8, true), api.OK},
		{api.Pool{Room: 1, Life: 1}, piece(1, 8, 1, false), api.OK},
		{api.Pool{Room: 1 << 20, Life: 1}, piece(1, 0, 65512, true), api.OK},
	} {
		n, y, ok, e := Take(c.p, c.x)
		if ok || e != c.want || !Right(n) {
			t.Errorf("%d: %t, %d instead of %d", i, ok, e, c.want)
		}
		isNothing(t, y)
		if e != api.OK {
			asItWas(t, n, c.p)
		} else if Held(n) != Held(c.p)+len(c.x.Body) {
			t.Errorf("%d: %d bytes", i, Held(n))
		}
	}
	// Also where the packet would be whole with it, and gone.
	p := api.Pool{Room: 15, Life: 1, List: []api.Buffer{ending(buffer(1, 0, run(8, 8)), 16)}}
	if n, _, ok, e := Take(p, piece(1, 0, 8, true)); ok || e != api.ErrFull || told(n) != told(p) {
		t.Errorf("%+v, %t, %d", n, ok, e)
	}
	p.Room = 16
	if n, _, ok, e := Take(p, piece(1, 0, 8, true)); !ok || e != api.OK || len(n.List) != 0 {
		t.Errorf("%+v, %t, %d", n, ok, e)
	}
}

// P7.2: of several errors the first is told.
func TestTakeOrder(t *testing.T) {
	full := many(64)
	full.Room = 64 * 8
	for i, c := range []struct {
		p    api.Pool
		x    api.IP
		want api.Errno
	}{
		{full, piece(5, 8, 8, true), api.ErrFrag},
		{full, piece(5, 0, 8, false), api.OK},
		{full, piece(5, 8, 7, true), api.ErrArg},
		{full, piece(5, 8, 0, false), api.ErrArg},
		{many(65), piece(5, 8, 8, true), api.ErrArg},
		{many(65), piece(5, 0, 8, false), api.OK},
		{full, piece(64, 8, 7, true), api.ErrArg},
		{full, piece(64, 8, 8, true), api.ErrFull},
		{full, piece(5, 16, 8, true), api.ErrFull},
	} {
		if n, _, _, e := Take(c.p, c.x); e != c.want {
			t.Errorf("%d: %+v, %d instead of %d", i, n, e, c.want)
		}
	}
}

// P7.2, with the chapter's example: what is whole is taken out.
func TestTakeWhole(t *testing.T) {
	p, y, ok, e := Take(sample(), piece(9, 8, 8, false))
	if ok || e != api.OK || len(p.List) != 4 {
		t.Fatal(p, y, ok, e)
	}
	first := piece(9, 0, 8, true)
	first.TOS, first.DF, first.TTL, first.Opts = 3, true, 9, counted(12, 7)
	p, y, ok, e = Take(p, first)
	want := api.IP{TOS: 3, ID: 9, DF: true, TTL: 9, Proto: 17, Src: 0x0a000001, Dst: 0x08080808, Opts: counted(12, 7), Body: slices.Concat(counted(8, 3), counted(8, 11))}
	if !ok || e != api.OK || !ip.Same(y, want) {
		t.Errorf("%+v, %t, %d", y, ok, e)
	}
	asItWas(t, p, sample())
	// The last one to come stands at the end, or in the middle.
	for i, c := range []struct {
		b api.Buffer
		x api.IP
		n int
	}{
		{buffer(4, 70, run(0, 8)), piece(4, 8, 1, false), 9},
		{buffer(4, 70, run(0, 8), run(8, 16)), piece(4, 24, 20, false), 44},
		{ending(buffer(4, 70, run(0, 8), run(16, 3)), 19), piece(4, 8, 8, true), 19},
		{ending(buffer(4, 70, run(0, 8), run(8, 8), run(40, 24)), 64), piece(4, 16, 24, true), 64},
		{ending(buffer(4, 70, run(0, 8)), 16), piece(4, 8, 8, true), 16},
	} {
		for at := range 4 {
			p := sample()
			p.List = slices.Insert(p.List, at, c.b)
			n, y, ok, e := Take(p, c.x)
			var body []byte
			runs := append(slices.Clone(c.b.Runs), run(c.x.Off, len(c.x.Body)))
			slices.SortFunc(runs, func(a, b api.Run) int { return a.Off - b.Off })
			for _, r := range runs {
				body = append(body, r.Data...)
			}
			want := c.b.Head
			want.Body = body
			if !ok || e != api.OK || len(body) != c.n || !ip.Same(y, want) {
				t.Errorf("%d: %+v, %t, %d", i, y, ok, e)
			}
			asItWas(t, n, sample())
		}
	}
}

// P7.2: a packet of which one piece is missing isn't whole, whichever that is.
func TestTakeNotWhole(t *testing.T) {
	all := []api.IP{piece(4, 0, 16, true), piece(4, 16, 8, true), piece(4, 24, 8, true), piece(4, 32, 3, false)}
	for missing := range all {
		p := pool()
		for i, x := range all {
			if i == missing {
				continue
			}
			n, y, ok, e := Take(p, x)
			if ok || e != api.OK {
				t.Errorf("without %d: %t, %d", missing, ok, e)
			}
			isNothing(t, y)
			p = n
		}
		if n, y, ok, e := Take(p, all[missing]); !ok || e != api.OK || len(y.Body) != 35 || len(n.List) != 0 {
			t.Errorf("%d behind: %+v, %t, %d", missing, y, ok, e)
		}
	}
}

// P7.2: what is whole, but may not be put, is gone.
func TestTakeWholeButNone(t *testing.T) {
	long := piece(4, 0, 65472, true)
	long.Opts = counted(40, 1)
	for _, c := range []struct {
		n    int
		want api.Errno
	}{{3, api.OK}, {4, api.ErrFrag}, {43, api.ErrFrag}} {
		p, _, _, e := Take(pool(buffer(3, 1, run(8, 8))), long)
		if e != api.OK {
			t.Fatal(e)
		}
		rest := piece(4, 65472, c.n, false)
		rest.Opts = nil
		n, y, ok, e := Take(p, rest)
		if e != c.want || ok != (e == api.OK) || ok && len(y.Body) != 65472+c.n {
			t.Errorf("%d: %d bytes, %t, %d", c.n, len(y.Body), ok, e)
		}
		if !ok {
			isNothing(t, y)
		}
		asItWas(t, n, pool(buffer(3, 1, run(8, 8))))
	}
	// Heads of which a pool asks nothing.
	for i, change := range []func(h *api.IP){
		func(h *api.IP) { h.TOS = 256 }, func(h *api.IP) { h.ID = -1 }, func(h *api.IP) { h.TTL = 1000 }, func(h *api.IP) { h.Proto = -1 },
		func(h *api.IP) { h.Opts = counted(39, 1) }, func(h *api.IP) { h.Opts = counted(2, 1) },
	} {
		b := buffer(4, 70, run(0, 8))
		change(&b.Head)
		p := pool(buffer(3, 1, run(8, 8)), b, buffer(5, 1, run(8, 8)))
		n, y, ok, e := Take(p, piece(4, 8, 8, false))
		if ok || e != api.ErrFrag {
			t.Errorf("%d: %t, %d", i, ok, e)
		}
		isNothing(t, y)
		asItWas(t, n, pool(p.List[0], p.List[2]))
	}
	// A head that differs from its packet's name may be put: it goes as it stands.
	b := buffer(4, 70, run(0, 8))
	b.Head = api.IP{ID: 77, Src: 5}
	if _, y, ok, e := Take(pool(b), piece(4, 8, 8, false)); !ok || e != api.OK || y.ID != 77 || y.Src != 5 || len(y.Body) != 16 {
		t.Errorf("%+v, %t, %d", y, ok, e)
	}
}

// roomy is a copy of a pool whose lists all have spare room, with something in it.
func roomy(p api.Pool) api.Pool {
	bytesOf := func(b []byte) []byte { return append(bytes.Clone(b), 0x77, 0x77, 0x77)[:len(b)] }
	list := make([]api.Buffer, 0, len(p.List)+2)
	for _, b := range p.List {
		b.Head.Opts, b.Head.Body = bytesOf(b.Head.Opts), bytesOf(b.Head.Body)
		runs := make([]api.Run, 0, len(b.Runs)+2)
		for _, r := range b.Runs {
			runs = append(runs, api.Run{Off: r.Off, Data: bytesOf(r.Data)})
		}
		b.Runs = append(runs, api.Run{Off: 7}, api.Run{Off: 9})[:len(runs)]
		list = append(list, b)
	}
	p.List = append(list, api.Buffer{ID: 7}, api.Buffer{ID: 9})[:len(list)]
	return p
}

// spare is all that stands in a pool and in the spare room of its lists.
func spare(p api.Pool) string {
	p.List = p.List[:cap(p.List)]
	s := fmt.Sprint(p)
	for _, b := range p.List {
		s += fmt.Sprint(b.Runs[:cap(b.Runs)], b.Head.Opts[:cap(b.Head.Opts)], b.Head.Body[:cap(b.Head.Body)])
		for _, r := range b.Runs {
			s += fmt.Sprint(r.Data[:cap(r.Data)])
		}
	}
	return s
}

// leaves fails if a call changes the pool that is handed in, or answers one that shares something with it.
func leaves(t *testing.T, name string, p api.Pool, call func(p api.Pool) api.Pool) {
	t.Helper()
	want := told(call(roomy(p)))
	in := roomy(p)
	before := spare(in)
	out := call(in)
	if spare(in) != before {
		t.Errorf("%s changes %s to %s", name, before, spare(in))
	}
	spoil(out)
	if spare(in) != before {
		t.Errorf("%s answers what was handed in: %s, and %s", name, before, spare(in))
	}
	out = call(in)
	spoil(in)
	if told(out) != want {
		t.Errorf("%s keeps what was handed in: %s, and %s", name, want, told(out))
	}
}

// P7.1 and P7.2: what is handed in stays, its spare room too, and the answer is new memory.
func TestPoolLeaves(t *testing.T) {
	bad := with(func(p *api.Pool) { p.List[0].Head.Body = counted(3, 1) })
	late := with(func(p *api.Pool) { p.Now = 115 })
	for i, p := range []api.Pool{sample(), late, bad, many(64), with(func(p *api.Pool) { p.Room = 80 })} {
		for _, now := range []int{0, 115, 125, 1 << 40} {
			leaves(t, fmt.Sprint("Tick ", i, now), p, func(p api.Pool) api.Pool { n, _, _ := Tick(p, now); return n })
		}
		for k, x := range []api.IP{
			{}, piece(1, 0, 8, false), piece(1, 16, 8, true), piece(1, 56, 8, false), piece(1, 8, 8, true), piece(1, 8, 0, true),
			piece(2, 0, 8, true), piece(2, 16, 16, true), piece(3, 0, 8, true), piece(3, 56, 3, false), piece(99, 8, 8, true), piece(99, 0, 8, true),
		} {
			leaves(t, fmt.Sprint("Take ", i, k), p, func(p api.Pool) api.Pool { n, _, _, _ := Take(p, x); return n })
		}
	}
}

// P7.2: so does the packet that is handed in.
func TestPacketLeaves(t *testing.T) {
	nearly := buffer(4, 70, run(0, 8))
	nearly.Head.Opts = counted(8, 3)
	for i, c := range []struct {
		p api.Pool
		x api.IP
	}{
		{pool(), api.IP{TTL: 3}}, {sample(), piece(1, 0, 9, false)}, {pool(), piece(1, 0, 8, true)}, {sample(), piece(3, 8, 8, true)},
		{sample(), piece(3, 0, 8, true)}, {pool(nearly), piece(4, 8, 5, false)}, {pool(ending(buffer(4, 1, run(8, 8)), 16)), piece(4, 0, 8, true)},
	} {
		x := c.x
		x.Opts = append(counted(8, 5), 1, 2, 3)[:8]
		x.Body = append(bytes.Clone(c.x.Body), 1, 2, 3)[:len(c.x.Body)]
		all := func() string { return fmt.Sprint(x, x.Opts[:cap(x.Opts)], x.Body[:cap(x.Body)]) }
		before := all()
		n, y, _, _ := Take(c.p, x)
		wantPool, wantPacket := told(n), fmt.Sprint(y)
		// What is answered is of one memory neither with what came nor among itself.
		spoilBytes(y.Opts)
		spoilBytes(y.Body)
		if all() != before || told(n) != wantPool {
			t.Errorf("%d: %s, and %s", i, before, all())
		}
		spoil(n)
		if all() != before {
			t.Errorf("%d: %s, and %s", i, before, all())
		}
		n, y, _, _ = Take(c.p, x)
		spoilBytes(x.Opts)
		spoilBytes(x.Body)
		if told(n) != wantPool || fmt.Sprint(y) != wantPacket {
			t.Errorf("%d: %s and %s, and %+v and %+v", i, wantPool, wantPacket, n, y)
		}
	}
}

// P7.2: runs and heads that are handed in as one memory are answered as memory of their own.
func TestSharedRuns(t *testing.T) {
	b := counted(8, 3)
	one := buffer(1, 99, api.Run{Off: 0, Data: b}, api.Run{Off: 8, Data: b})
	one.Head.Opts = b
	p := pool(one, buffer(2, 99, api.Run{Off: 8, Data: b}))
	n, _, _, e := Take(p, piece(1, 24, 8, true))
	want := told(n)
	m, _, _ := Tick(p, 101)
	for i, data := range [][]byte{n.List[0].Runs[0].Data, m.List[0].Runs[0].Data} {
		spoilBytes(data)
		q := []api.Pool{n, m}[i]
		if !bytes.Equal(q.List[0].Runs[1].Data, b) || !bytes.Equal(q.List[1].Runs[0].Data, b) || !bytes.Equal(q.List[0].Head.Opts, b) {
			t.Errorf("%d: %+v", i, q)
		}
	}
	if again, _, _, _ := Take(p, piece(1, 24, 8, true)); e != api.OK || told(again) != want {
		t.Errorf("%+v, %d", again, e)
	}
}

// slow is what the chapter tells of a pool, byte by byte, apart from Take.
type slow struct {
	room  int
	names []int
	parts map[int]*part
}

// part is a packet of a slow pool: which bytes are there, and where its last piece ends (0: it isn't there).
type part struct {
	there map[int]byte
	end   int
	head  api.IP
}

// held is how many bytes are there.
func (s *slow) held() int {
	n := 0
	for _, id := range s.names {
		n += len(s.parts[id].there)
	}
	return n
}

// drop forgets a packet.
func (s *slow) drop(id int) {
	delete(s.parts, id)
	s.names = slices.DeleteFunc(s.names, func(n int) bool { return n == id })
}

// clash tells whether a piece clashes.
func (a *part) clash(x api.IP) bool {
	for at := range x.Body {
		if _, there := a.there[x.Off+at]; there {
			return true
		}
	}
	end := x.Off + len(x.Body)
	if a.end > 0 && (!x.MF || end > a.end) {
		return true
	}
	for at := range a.there {
		if !x.MF && at >= end {
			return true
		}
	}
	return false
}

// take is Take, of pieces that may be put.
func (s *slow) take(x api.IP) (api.IP, bool, api.Errno) {
	a := s.parts[x.ID]
	if a != nil && a.clash(x) {
		s.drop(x.ID)
		return api.IP{}, false, api.ErrFrag
	}
	if a == nil && len(s.names) == 64 || s.held()+len(x.Body) > s.room {
		return api.IP{}, false, api.ErrFull
	}
	if a == nil {
		a = &part{there: map[int]byte{}}
		s.parts[x.ID] = a
		s.names = append(s.names, x.ID)
	}
	for at, b := range x.Body {
		a.there[x.Off+at] = b
	}
	if x.Off == 0 {
		a.head = x
	}
	if !x.MF {
		a.end = x.Off + len(x.Body)
	}
	if a.end == 0 || len(a.there) < a.end {
		return api.IP{}, false, api.OK
	}
	s.drop(x.ID)
	y := a.head
	y.MF, y.Body = false, make([]byte, a.end)
	for at, b := range a.there {
		y.Body[at] = b
	}
	if 20+len(y.Opts)+len(y.Body) > 65535 {
		return api.IP{}, false, api.ErrFrag
	}
	return y, true, api.OK
}

// alike fails if a pool doesn't hold what a slow one does.
func (s *slow) alike(t *testing.T, p api.Pool) {
	t.Helper()
	if !Right(p) || Held(p) != s.held() || len(p.List) != len(s.names) {
		t.Fatalf("%+v isn't %+v", p, s)
	}
	for i, b := range p.List {
		a := s.parts[s.names[i]]
		if b.ID != s.names[i] || a == nil || b.Total != a.end && (b.Total != -1 || a.end != 0) {
			t.Fatalf("%+v isn't %+v", b, a)
		}
		for _, r := range b.Runs {
			for at, c := range r.Data {
				if have, there := a.there[r.Off+at]; !there || have != c {
					t.Fatalf("%+v isn't %+v", b, a)
				}
			}
		}
	}
}

// P7.2 and P7.3: every sequence of pieces of a small packet is taken as the chapter tells.
func TestTakeEverySequence(t *testing.T) {
	var some []api.IP
	for off := 0; off <= 16; off += 8 {
		for n := 8; off+n <= 24; n += 8 {
			some = append(some, piece(1, off, n, true))
		}
		if off > 0 {
			some = append(some, piece(1, off, 3, false), piece(1, off, 8, false))
		}
	}
	seen := map[api.Errno]int{}
	for code := range len(some) * len(some) * len(some) * len(some) {
		p, s := pool(), &slow{room: 1 << 16, parts: map[int]*part{}}
		for range 4 {
			x := some[code%len(some)]
			code /= len(some)
			n, y, ok, e := Take(p, x)
			wantY, wantOK, wantE := s.take(x)
			if ok != wantOK || e != wantE || !ip.Same(y, wantY) {
				t.Fatalf("%+v with %+v: %+v, %t, %d instead of %+v, %t, %d", p, x, y, ok, e, wantY, wantOK, wantE)
			}
			s.alike(t, n)
			seen[e]++
			p = n
		}
	}
	if seen[api.OK] < 1000 || seen[api.ErrFrag] < 1000 {
		t.Error(seen)
	}
}

// cutUp is a packet in pieces of drawn lengths, of which each has its own head.
func cutUp(chance *rand.Rand, whole api.IP) []api.IP {
	var list []api.IP
	for off := 0; off < len(whole.Body); {
		x := whole
		n := 8 * (1 + chance.Intn(4))
		x.MF, x.Off = off+n < len(whole.Body), off
		x.Body = whole.Body[off:min(off+n, len(whole.Body))]
		if off > 0 {
			x.TTL, x.Opts = chance.Intn(256), make([]byte, 4*chance.Intn(3))
		}
		list = append(list, x)
		off += n
	}
	return list
}

// P7.3: the pieces of packets, in any order, each once, make those packets; a pool stays right.
func TestPiecesMakePackets(t *testing.T) {
	chance := rand.New(rand.NewSource(73))
	for range 150 {
		wholes, pieces := map[int]api.IP{}, []api.IP{}
		for id := range 1 + chance.Intn(8) {
			x := api.IP{
				TOS: chance.Intn(256), ID: id, DF: chance.Intn(2) == 0, TTL: chance.Intn(256), Proto: chance.Intn(256),
				Src: chance.Uint32(), Dst: chance.Uint32(), Opts: counted(4*chance.Intn(11), 3), Body: make([]byte, 9+24+chance.Intn(200)),
			}
			chance.Read(x.Body)
			wholes[id] = x
			pieces = append(pieces, cutUp(chance, x)...)
		}
		chance.Shuffle(len(pieces), func(i, k int) { pieces[i], pieces[k] = pieces[k], pieces[i] })
		p, _ := New(8*240, 5)
		for _, x := range pieces {
			n, y, ok, e := Take(p, x)
			if e != api.OK || !Right(n) {
				t.Fatalf("%+v: %d", x, e)
			}
			if ok && !ip.Same(y, wholes[y.ID]) {
				t.Errorf("%+v isn't %+v", y, wholes[y.ID])
			}
			if ok {
				delete(wholes, y.ID)
			}
			p = n
		}
		if len(wholes) != 0 || len(p.List) != 0 || Held(p) != 0 {
			t.Errorf("%+v is left, and %+v", wholes, p)
		}
	}
}

// P7.3: of the greatest packets too, in one order, in the other, and drawn.
func TestGreatestPacket(t *testing.T) {
	chance := rand.New(rand.NewSource(74))
	whole := api.IP{ID: 5, TTL: 3, Proto: 6, Src: 1, Dst: 2, Body: make([]byte, 65515)}
	chance.Read(whole.Body)
	var pieces []api.IP
	for off := 0; off < len(whole.Body); off += 1480 {
		x := whole
		x.Off, x.MF = off, off+1480 < len(whole.Body)
		x.Body = whole.Body[off:min(off+1480, len(whole.Body))]
		pieces = append(pieces, x)
	}
	for _, reorder := range []func(){
		func() {}, func() { slices.Reverse(pieces) },
		func() { chance.Shuffle(len(pieces), func(i, k int) { pieces[i], pieces[k] = pieces[k], pieces[i] }) },
	} {
		reorder()
		p, _ := New(65515, 1)
		for i, x := range pieces {
			n, y, ok, e := Take(p, x)
			last := i == len(pieces)-1
			if e != api.OK || ok != last || last && !ip.Same(y, whole) {
				t.Fatalf("%d: %t, %d", i, ok, e)
			}
			p = n
		}
	}
}

// P7.2 and P7.3: drawn pieces of several packets, with times that go on, as the chapter tells; the pool stays right.
func TestTakeDrawn(t *testing.T) {
	chance := rand.New(rand.NewSource(75))
	seen := map[string]int{}
	for range 200 {
		room := 40 + chance.Intn(120)
		p, _ := New(room, 1+chance.Intn(40))
		s := &slow{room: room, parts: map[int]*part{}}
		born := map[int]int{}
		for range 150 {
			x := piece(chance.Intn(9), 8*chance.Intn(4), 8*(1+chance.Intn(2)), chance.Intn(3) > 0)
			x.Body = x.Body[:len(x.Body)-chance.Intn(2)*chance.Intn(8)]
			if !ip.Piece(x) || x.MF && len(x.Body)%8 != 0 {
				continue
			}
			n, y, ok, e := Take(p, x)
			begins := s.parts[x.ID] == nil
			wantY, wantOK, wantE := s.take(x)
			if ok != wantOK || e != wantE || !ip.Same(y, wantY) {
				t.Fatalf("%+v with %+v: %+v, %t, %d instead of %+v, %t, %d", p, x, y, ok, e, wantY, wantOK, wantE)
			}
			if begins {
				born[x.ID] = p.Now
			}
			seen[fmt.Sprint(ok, e)]++
			n, gone, e := Tick(n, n.Now+chance.Intn(3))
			for _, id := range slices.Clone(s.names) {
				if n.Now-born[id] >= n.Life {
					s.drop(id)
					gone--
				}
			}
			if gone != 0 || e != api.OK {
				t.Fatalf("%d too many are gone, %d", gone, e)
			}
			s.alike(t, n)
			p = n
		}
	}
	for _, what := range []string{"true 0", "false 0", "false 7", "false 8"} {
		if seen[what] < 100 {
			t.Errorf("%s: %d times", what, seen[what])
		}
	}
}
