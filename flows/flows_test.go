package flows

import (
	"math"
	"math/rand"
	"reflect"
	"slices"
	"testing"

	"casemate/api"
	"casemate/tuple"
)

const (
	lastTime = 1099511627776
	mostRoom = 256
)

// slow is a store as the chapter tells it, without a table and alarms.
type slow struct {
	room, now int
	flows     map[int]api.Flow
}

// nums are the numbers that flows have, in order.
func (m *slow) nums() []int {
	var list []int
	for num := range m.flows {
		list = append(list, num)
	}
	slices.Sort(list)
	return list
}

// find does what Find has to.
func (m *slow) find(t api.Tuple) (int, bool, bool) {
	for num, f := range m.flows {
		if f.There == t || f.Back == t {
			return num, f.Back == t, true
		}
	}
	return 0, false, false
}

// rightTuple tells whether a tuple is right.
func rightTuple(t api.Tuple) bool {
	return t.Proto >= 0 && t.Proto < 256 && t.Sport >= 0 && t.Sport < 65536 && t.Dport >= 0 && t.Dport < 65536
}

// wouldAdd is what Add has to answer.
func (m *slow) wouldAdd(f api.Flow) (int, api.Errno) {
	_, _, there := m.find(f.There)
	_, _, back := m.find(f.Back)
	switch {
	case !rightTuple(f.There), !rightTuple(f.Back), f.There == f.Back, f.Until > lastTime:
		return 0, api.ErrArg
	case f.Until <= m.now:
		return 0, api.ErrState
	case there || back:
		return 0, api.ErrTwice
	case len(m.flows) == m.room:
		return 0, api.ErrFull
	}
	for num := range m.room {
		if _, ok := m.flows[num]; !ok {
			return num, api.OK
		}
	}
	panic("no number is free")
}

// wouldSet is what Set has to answer.
func (m *slow) wouldSet(num, until int) api.Errno {
	_, ok := m.flows[num]
	switch {
	case !ok:
		return api.ErrNone
	case until > lastTime:
		return api.ErrArg
	case until <= m.now:
		return api.ErrState
	}
	return api.OK
}

// tick does what Tick has to.
func (m *slow) tick(now int) ([]api.Flow, api.Errno) {
	if now < m.now || now > lastTime {
		return nil, api.ErrArg
	}
	m.now = now
	var gone []int
	for num, f := range m.flows {
		if f.Until <= now {
			gone = append(gone, num)
		}
	}
	slices.SortFunc(gone, func(a, b int) int {
		if m.flows[a].Until != m.flows[b].Until {
			return m.flows[a].Until - m.flows[b].Until
		}
		return a - b
	})
	var list []api.Flow
	for _, num := range gone {
		list = append(list, m.flows[num])
		delete(m.flows, num)
	}
	return list, api.OK
}

// pair is a store, and what it has to be.
type pair struct {
	t *testing.T
	s *Store
	m *slow
}

// newPair is a pair of empty stores.
func newPair(t *testing.T, room int) pair {
	t.Helper()
	s, e := New(room)
	if e != api.OK || s == nil {
		t.Fatalf("a room of %d: %d", room, e)
	}
	return pair{t, s, &slow{room: room, flows: map[int]api.Flow{}}}
}

// pairWith is a pair of stores whose time is now, with these flows.
func pairWith(t *testing.T, room, now int, list ...api.Flow) pair {
	t.Helper()
	p := newPair(t, room)
	p.tick(now)
	for i, f := range list {
		p.add(f, i, api.OK)
	}
	return p
}

// fullPair is a pair of stores at 50 that have no room, with flows from a name on, which end from 60 on.
func fullPair(t *testing.T, room int, from uint32) pair {
	t.Helper()
	var list []api.Flow
	for i := range room {
		list = append(list, flow(from+uint32(i), 60+i))
	}
	return pairWith(t, room, 50, list...)
}

// flow is one of a name of its own, which is over at until.
func flow(n uint32, until int) api.Flow {
	there := api.Tuple{Proto: 6, Src: n, Sport: 5000, Dst: 0x08080808, Dport: 80}
	back := api.Tuple{Proto: 6, Src: 0x08080808, Sport: 80, Dst: 0xc0000201, Dport: int(n % 65536)}
	return api.Flow{There: there, Back: back, Until: until, Note: int(n) * 3}
}

// with is a flow, changed.
func with(f api.Flow, change func(f *api.Flow)) api.Flow {
	change(&f)
	return f
}

// counted fails unless the store says of itself in all what it has to.
func (p pair) counted() {
	p.t.Helper()
	var want []api.Flow
	for _, num := range p.m.nums() {
		want = append(want, p.m.flows[num])
	}
	if l := All(p.s); !slices.Equal(l, want) {
		p.t.Fatalf("all: %+v instead of %+v", l, want)
	}
	if n := Len(p.s); n != len(want) {
		p.t.Fatalf("%d flows instead of %d", n, len(want))
	}
}

// found fails unless a tuple is found as it has to be.
func (p pair) found(t api.Tuple) {
	p.t.Helper()
	num, back, ok := Find(p.s, t)
	wantNum, wantBack, wantOk := p.m.find(t)
	if num != wantNum || back != wantBack || ok != wantOk {
		p.t.Fatalf("%+v: %d, %t, %t instead of %d, %t, %t", t, num, back, ok, wantNum, wantBack, wantOk)
	}
}

// got fails unless the flow of a number is what it has to be.
func (p pair) got(num int) {
	p.t.Helper()
	f, ok := Get(p.s, num)
	if want, has := p.m.flows[num]; f != want || ok != has {
		p.t.Fatalf("%d: %+v, %t instead of %+v, %t", num, f, ok, want, has)
	}
}

// same fails unless the store is seen as it has to be, from all sides, and at these flows, which may be gone.
func (p pair) same(others ...api.Flow) {
	p.t.Helper()
	p.counted()
	for num := -2; num < p.m.room+2; num++ {
		p.got(num)
	}
	for _, f := range p.m.flows {
		others = append(others, f)
	}
	for _, f := range others {
		for _, t := range []api.Tuple{f.There, f.Back, tuple.Turn(f.There), tuple.Turn(f.Back)} {
			p.found(t)
		}
	}
}

// add fails unless both answer this.
func (p pair) add(f api.Flow, num int, e api.Errno) {
	p.t.Helper()
	wantNum, want := p.m.wouldAdd(f)
	isNum, is := Add(p.s, f)
	if want != e || is != e || wantNum != num || isNum != num {
		p.t.Fatalf("add %+v: %d, %d instead of %d, %d, or of %d, %d", f, isNum, is, num, e, wantNum, want)
	}
	if e == api.OK {
		p.m.flows[num] = f
	}
	p.got(num)
	p.found(f.There)
	p.found(f.Back)
}

// refused fails unless a flow isn't taken, for this.
func (p pair) refused(f api.Flow, e api.Errno) {
	p.t.Helper()
	p.add(f, 0, e)
	p.counted()
}

// set fails unless both answer this.
func (p pair) set(num, until, note int, e api.Errno) {
	p.t.Helper()
	want, is := p.m.wouldSet(num, until), Set(p.s, num, until, note)
	if want != e || is != e {
		p.t.Fatalf("set %d to %d: %d instead of %d, or of %d", num, until, is, e, want)
	}
	if e == api.OK {
		p.m.flows[num] = with(p.m.flows[num], func(f *api.Flow) { f.Until, f.Note = until, note })
	}
	p.got(num)
	p.counted()
}

// drop fails unless both answer the same.
func (p pair) drop(num int) {
	p.t.Helper()
	want, has := p.m.flows[num]
	delete(p.m.flows, num)
	f, e := Drop(p.s, num)
	if f != want || has != (e == api.OK) || !has && e != api.ErrNone {
		p.t.Fatalf("drop %d: %+v, %d instead of %+v, %t", num, f, e, want, has)
	}
	p.got(num)
	p.found(f.There)
	p.found(f.Back)
	p.counted()
}

// tick fails unless both answer the same.
func (p pair) tick(now int) []api.Flow {
	p.t.Helper()
	want, e := p.m.tick(now)
	l, is := Tick(p.s, now)
	if !slices.Equal(l, want) || is != e {
		p.t.Fatalf("tick to %d: %+v, %d instead of %+v, %d", now, l, is, want, e)
	}
	for _, f := range l {
		p.found(f.There)
		p.found(f.Back)
	}
	p.counted()
	return l
}

// gone fails unless just the flows of these names go when the time is now, in this order.
func (p pair) gone(now int, names ...uint32) {
	p.t.Helper()
	var list []uint32
	for _, f := range p.tick(now) {
		list = append(list, f.There.Src)
	}
	if !slices.Equal(list, names) {
		p.t.Fatalf("tick to %d: %v instead of %v", now, list, names)
	}
}

// The chapter's example: a flow of a to b is found by a to b, and, as Back, by b to a.
func TestExample(t *testing.T) {
	s, _ := New(4)
	a := api.Tuple{Proto: 17, Src: 1, Sport: 5000, Dst: 2, Dport: 53}
	if num, e := Add(s, api.Flow{There: a, Back: tuple.Turn(a), Until: 9}); num != 0 || e != api.OK {
		t.Fatal(num, e)
	}
	if num, back, ok := Find(s, a); num != 0 || back || !ok {
		t.Error(num, back, ok)
	}
	if num, back, ok := Find(s, tuple.Turn(a)); num != 0 || !back || !ok {
		t.Error(num, back, ok)
	}
}

// No store answers ErrArg, nothing, 0 and false, whatever else is handed in.
func TestNil(t *testing.T) {
	none := api.Flow{}
	for _, f := range []api.Flow{none, flow(1, 10), flow(1, 0), flow(1, -1), flow(1, lastTime+1)} {
		if num, e := Add(nil, f); num != 0 || e != api.ErrArg {
			t.Errorf("add %+v: %d, %d", f, num, e)
		}
		if num, back, ok := Find(nil, f.There); num != 0 || back || ok {
			t.Errorf("find %+v: %d, %t, %t", f.There, num, back, ok)
		}
	}
	for _, n := range []int{0, 1, 7, -1, 255, 256, lastTime, lastTime + 1, math.MaxInt, math.MinInt} {
		if f, ok := Get(nil, n); f != none || ok {
			t.Errorf("get %d: %+v, %t", n, f, ok)
		}
		for _, until := range []int{n, 0, 5, lastTime + 1} {
			if e := Set(nil, n, until, n); e != api.ErrArg {
				t.Errorf("set %d to %d: %d", n, until, e)
			}
		}
		if f, e := Drop(nil, n); f != none || e != api.ErrArg {
			t.Errorf("drop %d: %+v, %d", n, f, e)
		}
		if l, e := Tick(nil, n); len(l) != 0 || e != api.ErrArg {
			t.Errorf("tick to %d: %+v, %d", n, l, e)
		}
	}
	if len(All(nil)) != 0 || Len(nil) != 0 {
		t.Error("it has something")
	}
}

// A store that didn't come of New has no room, and nothing goes wrong with it.
func TestNoRoom(t *testing.T) {
	s := new(Store)
	if num, e := Add(s, flow(1, 10)); num != 0 || e != api.ErrFull {
		t.Errorf("add: %d, %d", num, e)
	}
	if num, e := Add(s, flow(1, 0)); num != 0 || e != api.ErrState {
		t.Errorf("add: %d, %d", num, e)
	}
	for _, num := range []int{0, 1, -1, math.MaxInt} {
		if f, ok := Get(s, num); f != (api.Flow{}) || ok {
			t.Errorf("get %d: %+v, %t", num, f, ok)
		}
		if f, e := Drop(s, num); f != (api.Flow{}) || e == api.OK {
			t.Errorf("drop %d: %+v, %d", num, f, e)
		}
		if e := Set(s, num, 10, 1); e != api.ErrNone {
			t.Errorf("set %d: %d", num, e)
		}
		if l, _ := Tick(s, num); len(l) != 0 {
			t.Errorf("tick to %d: %+v", num, l)
		}
	}
	if num, back, ok := Find(s, flow(1, 10).There); num != 0 || back || ok || len(All(s)) != 0 || Len(s) != 0 {
		t.Error(num, back, ok, All(s), Len(s))
	}
}

// P12.1: which rooms there may be; a new store is empty, its time is 0, and just so many flows are in it at most.
func TestNew(t *testing.T) {
	for _, room := range []int{0, -1, -2, -256, mostRoom + 1, mostRoom + 2, 512, 1024, 1<<32 + 1, 1 << 62, math.MaxInt, math.MinInt} {
		if s, e := New(room); s != nil || e != api.ErrArg {
			t.Errorf("a room of %d: %v, %d", room, s, e)
		}
	}
	for room := 1; room <= mostRoom; room++ {
		p := newPair(t, room)
		p.same(flow(0, 1))
		if room > 20 && room < mostRoom-2 && room%16 > 1 {
			continue
		}
		for i := range room {
			p.add(flow(uint32(i), 1), i, api.OK)
		}
		p.refused(flow(9999, 1), api.ErrFull)
		p.same(flow(9999, 1))
	}
}

// P12.1: two stores have nothing in common.
func TestNewApart(t *testing.T) {
	a, b := newPair(t, 3), newPair(t, 3)
	a.add(flow(1, 5), 0, api.OK)
	b.same(flow(1, 5))
	b.add(flow(2, 3), 0, api.OK)
	b.add(flow(1, 4), 1, api.OK)
	a.same(flow(2, 3))
	b.set(1, 9, 8, api.OK)
	b.gone(3, 2)
	a.same(flow(2, 3))
	a.add(flow(3, 1), 1, api.OK)
	a.drop(0)
	b.same(flow(3, 1))
}

// What a store is can be changed by the chapter's calls alone: it shows no methods, and no parts.
func TestNoMethods(t *testing.T) {
	s := reflect.TypeFor[*Store]()
	if s.NumMethod() != 0 {
		t.Errorf("%d methods, the first one %s", s.NumMethod(), s.Method(0).Name)
	}
	for f := range s.Elem().Fields() {
		if f.IsExported() {
			t.Error(f.Name)
		}
	}
}

// P12.1: a flow has the least number that no other one has, whichever went, and however.
func TestAddNumber(t *testing.T) {
	for _, room := range []int{1, 2, 3, 5, 16, 17} {
		for out := range room {
			p := fullPair(t, room, 1)
			p.drop(out)
			p.add(flow(1000, 70), out, api.OK)
			p.refused(flow(1001, 70), api.ErrFull)
			p.same(flow(1001, 70), flow(uint32(out+1), 1))
			for other := range room {
				p.drop(other)
				p.drop(out)
				p.add(flow(2000+uint32(other), 1000), min(other, out), api.OK)
				if other != out {
					p.add(flow(3000+uint32(other), 1000), max(other, out), api.OK)
				}
			}
			p.same()
		}
	}
	p := fullPair(t, 6, 1)
	p.gone(62, 1, 2, 3)
	for i := range 3 {
		p.add(flow(100+uint32(i), 65), i, api.OK)
	}
	p.refused(flow(200, 65), api.ErrFull)
	p.gone(63, 4)
	p.set(5, 100, 1, api.OK)
	p.drop(0)
	p.add(flow(201, 65), 0, api.OK)
	p.add(flow(202, 65), 3, api.OK)
	p.same()
}

// badParts are changes by which a tuple is not right any more.
func badParts() []func(t *api.Tuple) {
	var list []func(t *api.Tuple)
	for _, n := range []int{-1, -256, 256, 257, 1 << 16, 1<<32 + 6, math.MaxInt, math.MinInt} {
		list = append(list, func(t *api.Tuple) { t.Proto = n })
	}
	for _, n := range []int{-1, -65536, 65536, 65537, 1<<32 + 80, math.MaxInt, math.MinInt} {
		list = append(list, func(t *api.Tuple) { t.Sport = n }, func(t *api.Tuple) { t.Dport = n })
	}
	return list
}

// wrongFlows are flows that may not be, at a time.
func wrongFlows(until int) []api.Flow {
	f := flow(9, until)
	list := []api.Flow{{Until: until}, {There: f.There, Back: f.There, Until: until}, {There: f.Back, Back: f.Back, Until: until}}
	for _, bad := range badParts() {
		list = append(list, with(f, func(f *api.Flow) { bad(&f.There) }), with(f, func(f *api.Flow) { bad(&f.Back) }))
		list = append(list, with(f, func(f *api.Flow) { bad(&f.There); bad(&f.Back) }))
	}
	for _, late := range []int{lastTime + 1, lastTime + 2, lastTime * 2, math.MaxInt} {
		list = append(list, with(f, func(f *api.Flow) { f.Until = late }))
	}
	return list
}

// P12.1: that a flow may not be is told first, and nothing is changed.
func TestAddWrong(t *testing.T) {
	for _, p := range []pair{newPair(t, 1), pairWith(t, 4, 50, flow(1, 70)), fullPair(t, 3, 8), pairWith(t, 2, lastTime)} {
		for _, until := range []int{51, 70, lastTime, 50, 1, 0, -1, math.MinInt} {
			for _, f := range wrongFlows(until) {
				p.refused(f, api.ErrArg)
			}
		}
		p.same(wrongFlows(60)...)
	}
}

// P12.1: a flow is over above the time, at whatever time; that it isn't is told ahead of what is there already, and of the room.
func TestAddNotNow(t *testing.T) {
	for _, now := range []int{0, 1, 2, 1000, 1 << 32, lastTime - 1} {
		p := pairWith(t, 2, now, flow(1, now+1))
		for _, until := range []int{now, now - 1, 0, -1, -2, -lastTime, math.MinInt} {
			for range 2 {
				p.refused(flow(2, until), api.ErrState)
				p.refused(flow(1, until), api.ErrState)
			}
		}
		p.add(flow(2, now+1), 1, api.OK)
		p.refused(flow(2, now), api.ErrState)
		p.refused(flow(3, now), api.ErrState)
		p.refused(flow(3, now+1), api.ErrFull)
		p.gone(now+1, 1, 2)
		p.refused(flow(2, now+1), api.ErrState)
		p.same(flow(1, 0), flow(2, 0))
	}
	p := pairWith(t, 1, lastTime)
	p.refused(flow(1, lastTime), api.ErrState)
	p.refused(flow(1, lastTime+1), api.ErrArg)
	p = newPair(t, 1)
	p.add(flow(1, lastTime), 0, api.OK)
	p.gone(lastTime - 1)
	p.gone(lastTime, 1)
}

// P12.1: no two tuples of flows are the same, on whichever sides; that is told ahead of the room.
func TestAddTwice(t *testing.T) {
	old, other := flow(1, 70), flow(2, 80)
	for _, room := range []int{3, 1} {
		p := pairWith(t, room, 50, old)
		for _, f := range []api.Flow{
			old, {There: old.Back, Back: old.There}, {There: old.There, Back: other.Back}, {There: old.Back, Back: other.Back},
			{There: other.There, Back: old.There}, {There: other.There, Back: old.Back},
		} {
			for _, until := range []int{51, 69, 70, 71, lastTime} {
				f.Until, f.Note = until, 7
				p.refused(f, api.ErrTwice)
			}
			f.Until = 50
			p.refused(f, api.ErrState)
		}
		p.same(other)
	}
	// One tuple of each of two flows.
	p := pairWith(t, 2, 50, old, other)
	p.refused(api.Flow{There: old.There, Back: other.Back, Until: 60}, api.ErrTwice)
	p.refused(api.Flow{There: other.Back, Back: old.There, Until: 60}, api.ErrTwice)
	p.same()
}

// P12.1: tuples of which one part differs are others; so are both of a flow, which needn't be one another turned.
func TestAddNearby(t *testing.T) {
	base := api.Tuple{Proto: 6, Src: 0x0a000001, Sport: 5000, Dst: 0x08080808, Dport: 80}
	tuples := []api.Tuple{base, tuple.Turn(base)}
	for _, change := range []func(t *api.Tuple){
		func(t *api.Tuple) { t.Proto = 17 }, func(t *api.Tuple) { t.Proto = 0 }, func(t *api.Tuple) { t.Proto = 255 },
		func(t *api.Tuple) { t.Src++ }, func(t *api.Tuple) { t.Src = 0 }, func(t *api.Tuple) { t.Src = math.MaxUint32 },
		func(t *api.Tuple) { t.Dst++ }, func(t *api.Tuple) { t.Dst = 0 }, func(t *api.Tuple) { t.Dst = math.MaxUint32 },
		func(t *api.Tuple) { t.Sport++ }, func(t *api.Tuple) { t.Sport = 0 }, func(t *api.Tuple) { t.Sport = 65535 },
		func(t *api.Tuple) { t.Dport++ }, func(t *api.Tuple) { t.Dport = 0 }, func(t *api.Tuple) { t.Dport = 65535 },
		func(t *api.Tuple) { *t = api.Tuple{} }, func(t *api.Tuple) { t.Src, t.Dst = t.Dst, t.Src }, func(t *api.Tuple) { t.Sport, t.Dport = t.Dport, t.Sport },
		func(t *api.Tuple) { t.Dst, t.Dport = t.Src, t.Sport },
	} {
		x := base
		change(&x)
		tuples = append(tuples, x)
	}
	for i, a := range tuples {
		for k, z := range tuples {
			if i == k {
				continue
			}
			p := newPair(t, len(tuples))
			p.add(api.Flow{There: a, Back: z, Until: 5}, 0, api.OK)
			for _, x := range tuples {
				p.found(x)
			}
			p.refused(api.Flow{There: z, Back: a, Until: 5}, api.ErrTwice)
		}
	}
	p := newPair(t, len(tuples))
	for i := 0; i+1 < len(tuples); i += 2 {
		p.add(api.Flow{There: tuples[i], Back: tuples[i+1], Until: 5, Note: i}, i/2, api.OK)
	}
	p.same()
}

// P12.1: what went may come again, and in another way.
func TestAddAgain(t *testing.T) {
	p := newPair(t, 2)
	f := flow(1, 0)
	for now := range 300 {
		g := with(f, func(f *api.Flow) { f.Until, f.Note = now+1, now })
		if now%3 == 0 {
			g.There, g.Back = g.Back, g.There
		}
		p.add(g, 0, api.OK)
		if now%2 == 0 {
			p.drop(0)
		}
		p.tick(now + 1)
		p.same(g)
	}
}

// P12.1: any note may be, and each part of a flow is kept as it is.
func TestAddNote(t *testing.T) {
	for _, note := range []int{0, 1, -1, 255, 1 << 32, math.MaxInt, math.MinInt} {
		p := newPair(t, 2)
		p.add(with(flow(1, 5), func(f *api.Flow) { f.Note = note }), 0, api.OK)
		p.add(with(flow(2, lastTime), func(f *api.Flow) { f.Note = ^note }), 1, api.OK)
		p.same()
		p.set(0, 9, ^note, api.OK)
		p.set(1, 5, note, api.OK)
		p.same()
		p.gone(lastTime, 2, 1)
	}
}

// P12.2: a tuple is found only as it is: another one, or one that isn't right, is none.
func TestFind(t *testing.T) {
	p := pairWith(t, 3, 0, flow(1, 5), flow(2, 5), api.Flow{There: api.Tuple{}, Back: api.Tuple{Proto: 255, Src: math.MaxUint32, Sport: 65535, Dst: math.MaxUint32, Dport: 65535}, Until: 5})
	p.same(flow(3, 5), api.Flow{})
	for num := range 3 {
		f, _ := Get(p.s, num)
		for i, x := range []api.Tuple{f.There, f.Back} {
			if n, back, ok := Find(p.s, x); n != num || back != (i == 1) || !ok {
				t.Errorf("%+v: %d, %t, %t", x, n, back, ok)
			}
			for _, change := range []func(t *api.Tuple){
				func(t *api.Tuple) { t.Proto += 256 }, func(t *api.Tuple) { t.Proto -= 256 }, func(t *api.Tuple) { t.Proto += 1 << 32 },
				func(t *api.Tuple) { t.Sport += 65536 }, func(t *api.Tuple) { t.Sport -= 65536 }, func(t *api.Tuple) { t.Dport += 1 << 32 }, func(t *api.Tuple) { t.Dport -= 65536 },
				func(t *api.Tuple) { t.Proto ^= 1 }, func(t *api.Tuple) { t.Sport ^= 1 }, func(t *api.Tuple) { t.Dport ^= 1 << 15 }, func(t *api.Tuple) { t.Src ^= 1 << 31 }, func(t *api.Tuple) { t.Dst ^= 1 },
			} {
				y := x
				change(&y)
				p.found(y)
				if n, back, ok := Find(p.s, y); n != 0 || back || ok {
					t.Errorf("%+v: %d, %t, %t", y, n, back, ok)
				}
			}
		}
	}
}

// wrongNums are numbers that no flow of a store has.
func wrongNums(room int) []int {
	return []int{-1, -2, -room, room, room + 1, 2 * room, mostRoom, mostRoom + 1, 1 << 32, 1<<32 + room - 1, lastTime, math.MaxInt, math.MinInt}
}

// P12.2: a number that no flow has: it may not be, no flow had it yet, or what had it is gone.
func TestNone(t *testing.T) {
	for _, room := range []int{1, 2, 5, mostRoom} {
		full := fullPair(t, room, 1)
		for _, num := range wrongNums(room) {
			full.got(num)
			full.drop(num)
			for _, until := range []int{0, 50, 51, lastTime, lastTime + 1, -1, math.MaxInt, math.MinInt} {
				full.set(num, until, 1, api.ErrNone)
			}
		}
		p := newPair(t, room)
		for num := range room {
			p.got(num)
			p.drop(num)
			p.set(num, 5, 1, api.ErrNone)
			p.set(num, 0, 1, api.ErrNone)
			p.set(num, lastTime+1, 1, api.ErrNone)
		}
		p.add(flow(1, 5), 0, api.OK)
		p.drop(0)
		p.drop(0)
		p.set(0, 5, 1, api.ErrNone)
		p.add(flow(1, 5), 0, api.OK)
		p.gone(5, 1)
		p.drop(0)
		p.set(0, 6, 1, api.ErrNone)
		p.set(0, lastTime+1, 1, api.ErrNone)
		p.same(flow(1, 5))
	}
}

// P12.2: a flow's time and note are set anew, and nothing else of it; which times may be.
func TestSet(t *testing.T) {
	for _, now := range []int{0, 1, 50, 1 << 32, lastTime - 2} {
		for num := range 3 {
			p := pairWith(t, 4, now, flow(1, now+1), flow(2, lastTime), flow(3, now+2))
			for _, until := range []int{lastTime + 1, lastTime + 2, lastTime * 2, math.MaxInt} {
				p.set(num, until, 99, api.ErrArg)
			}
			for _, until := range []int{now, now - 1, 0, -1, -lastTime, math.MinInt} {
				p.set(num, until, 99, api.ErrState)
			}
			p.same()
			for i, until := range []int{now + 1, now + 2, lastTime, lastTime - 1, now + 1} {
				p.set(num, until, i-2, api.OK)
				p.same()
			}
			p.tick(now + 1)
			p.set(num, now+2, 1, api.ErrNone)
			p.tick(lastTime)
			p.same(flow(1, 1), flow(2, 1), flow(3, 1))
		}
	}
}

// P12.2: a flow goes when it was last set to, not when it was to go at first.
func TestSetMoves(t *testing.T) {
	p := pairWith(t, 4, 0, flow(1, 10), flow(2, 20), flow(3, 30))
	p.set(0, 25, 1, api.OK)
	p.set(2, 5, 2, api.OK)
	p.gone(4)
	p.gone(10, 3)
	p.set(1, 25, 3, api.OK)
	p.gone(24)
	p.set(0, 26, 4, api.OK)
	p.gone(25, 2)
	p.gone(26, 1)
	for until := 500; until > 26; until-- {
		if until == 500 {
			p.add(flow(7, 600), 0, api.OK)
		}
		p.set(0, until, until, api.OK)
	}
	p.gone(27, 7)
	p.gone(600)
}

// P12.2: whichever flow is dropped, all others stay as they are.
func TestDrop(t *testing.T) {
	for _, room := range []int{1, 2, 3, 7, 40} {
		for num := range room {
			p := fullPair(t, room, 100)
			f, _ := Get(p.s, num)
			p.drop(num)
			p.same(f)
			p.drop(num)
			p.tick(lastTime)
			p.same(f)
		}
	}
	p := fullPair(t, mostRoom, 100)
	for i := range mostRoom {
		p.drop((i*101 + 5) % mostRoom)
		if i%32 == 0 {
			p.same(flow(105, 1))
		}
	}
	p.same(flow(100, 1), flow(355, 1))
}

// P12.3: gone is what is over at the time or ahead of it, and nothing else.
func TestTick(t *testing.T) {
	p := pairWith(t, 8, 0, flow(1, 10), flow(2, 11), flow(3, 9), flow(4, lastTime), flow(5, lastTime-1))
	p.gone(0)
	p.gone(8)
	p.gone(8)
	p.gone(9, 3)
	p.gone(9)
	p.add(flow(3, 10), 2, api.OK)
	p.gone(11, 1, 3, 2)
	p.gone(lastTime - 2)
	p.gone(lastTime-1, 5)
	p.gone(lastTime - 1)
	p.gone(lastTime, 4)
	p.gone(lastTime)
	p.same(flow(1, 1), flow(2, 1), flow(3, 1), flow(4, 1), flow(5, 1))
}

// P12.3: what goes is told by its time, of one time by its number, not by when it came or was set.
func TestTickOrder(t *testing.T) {
	times := []int{10, 2, 7, 10, 2, 10, 7, 11}
	chance := rand.New(rand.NewSource(12))
	for range 300 {
		p := newPair(t, len(times))
		for num, place := range chance.Perm(len(times)) {
			p.add(flow(uint32(num), times[place]), num, api.OK)
		}
		for range 5 {
			num := chance.Intn(len(times))
			p.set(num, times[chance.Intn(len(times))], 1, api.OK)
		}
		num := chance.Intn(len(times))
		p.drop(num)
		p.add(flow(99, times[num]), num, api.OK)
		p.tick(11)
		p.same()
	}
	p := newPair(t, mostRoom)
	var names []uint32
	for num := range mostRoom {
		p.add(flow(uint32(1000-num), 5+num), num, api.OK)
		names = append(names, uint32(1000-num))
	}
	for i := range mostRoom {
		p.set((i*77+3)%mostRoom, 9, 0, api.OK)
	}
	p.gone(9, names...)
	p.same(flow(1000, 5))
}

// P12.3: the time doesn't go back, nor beyond its bound; then nothing goes, and all stays.
func TestTickWrong(t *testing.T) {
	for _, now := range []int{0, 1, 7, 1 << 32, lastTime - 5} {
		p := pairWith(t, 3, now, flow(1, now+1), flow(2, now+2), flow(3, lastTime))
		for _, x := range []int{now - 1, -1, -7, math.MinInt, lastTime + 1, lastTime + 2, lastTime * 4, math.MaxInt, now - 1<<32} {
			if l, e := Tick(p.s, x); len(l) != 0 || e != api.ErrArg {
				t.Errorf("from %d to %d: %+v, %d", now, x, l, e)
			}
			p.same()
		}
		p.set(0, now, 1, api.ErrState)
		p.set(0, now+1, 1, api.OK)
		p.gone(now+1, 1)
		p.gone(lastTime, 2, 3)
		for _, x := range []int{0, now, lastTime - 1, lastTime + 1} {
			if l, e := Tick(p.s, x); len(l) != 0 || e != api.ErrArg {
				t.Errorf("from the end to %d: %+v, %d", x, l, e)
			}
		}
		p.same(flow(1, 1))
	}
}

// P12.3: all flows are told in the order of their numbers, and asking changes nothing.
func TestAll(t *testing.T) {
	p := newPair(t, 5)
	for range 3 {
		p.same()
	}
	for _, n := range []uint32{9, 3, 7, 1, 5} {
		p.add(flow(n, 50-int(n)), Len(p.s), api.OK)
	}
	p.drop(2)
	p.drop(0)
	p.add(flow(8, 5), 0, api.OK)
	for range 3 {
		var names []uint32
		for _, f := range All(p.s) {
			names = append(names, f.There.Src)
		}
		if !slices.Equal(names, []uint32{8, 3, 1, 5}) || Len(p.s) != 4 {
			t.Error(names, Len(p.s))
		}
		p.same(flow(9, 1), flow(7, 1))
	}
}

// P12.2 and P12.3: what is answered is the asker's own.
func TestAnswers(t *testing.T) {
	spoil := func(l []api.Flow) {
		l = l[:cap(l)]
		for i := range l {
			l[i] = flow(7777, 7777)
		}
	}
	p := fullPair(t, 100, 1)
	spoil(All(p.s))
	p.same(flow(7777, 1))
	a := p.tick(80)
	spoil(a)
	p.same(flow(1, 1))
	all := All(p.s)
	before := slices.Clone(all)
	b := p.tick(100)
	gone := slices.Clone(b)
	for i := range 30 {
		p.add(flow(500+uint32(i), 2000), i, api.OK)
	}
	p.set(99, 3000, 5, api.OK)
	spoil(p.tick(2500))
	if !slices.Equal(all, before) || !slices.Equal(b, gone) || len(a) != 21 || len(b) != 20 || a[20] != flow(7777, 7777) {
		t.Error("two answers are one")
	}
	p.same(flow(500, 1))
}

// Nothing is kept of a flow that is gone.
func TestForgotten(t *testing.T) {
	p := fullPair(t, 40, 1)
	fresh := newPair(t, 40)
	for num := 0; num < 40; num += 3 {
		p.drop(num)
	}
	p.tick(1000)
	if !slices.Equal(p.s.slots, fresh.s.slots) || !slices.Equal(p.s.table, fresh.s.table) {
		t.Error("something is left")
	}
}

// oneHome are tuples, all of the same home in a table of so many places.
func oneHome(places uint32, count int) []api.Tuple {
	var list []api.Tuple
	for src := uint32(0); len(list) < count; src++ {
		x := api.Tuple{Proto: 17, Src: src, Sport: 53, Dst: 5, Dport: 53}
		if tuple.Hash(x, 0)%places == 3 {
			list = append(list, x)
		}
	}
	return list
}

// P12.4: flows of which all tuples have one home are found as any others, whichever of them go.
func TestOneHome(t *testing.T) {
	chance := rand.New(rand.NewSource(124))
	for _, room := range []int{4, 16, 60} {
		tuples := oneHome(1024, 3*room)
		p := newPair(t, room)
		for range 20 * room {
			there, back := chance.Intn(len(tuples)), chance.Intn(len(tuples))
			f := api.Flow{There: tuples[there], Back: tuples[back], Until: p.m.now + 1 + chance.Intn(room)}
			num, e := p.m.wouldAdd(f)
			p.add(f, num, e)
			if chance.Intn(4) == 0 {
				p.drop(chance.Intn(room))
			}
			if chance.Intn(4) == 0 {
				p.tick(p.m.now + 1)
			}
		}
		p.same()
		for _, x := range tuples {
			p.found(x)
		}
		p.tick(lastTime)
		p.same()
	}
}

// step does one call of those that are drawn, and tells what it answered.
func (p pair) step(chance *rand.Rand, names, span int) api.Errno {
	num := chance.Intn(p.m.room+2) - 1
	switch chance.Intn(30) {
	case 0:
		p.tick(max(0, p.m.now+chance.Intn(span/4+3)-1))
	case 1, 2, 3:
		p.drop(num)
	case 4, 5, 6, 7, 8, 9:
		until := p.m.now + chance.Intn(span+2) - 1
		p.set(num, until, chance.Int(), p.m.wouldSet(num, until))
	default:
		f := flow(uint32(chance.Intn(names)), p.m.now+chance.Intn(span+2)-1)
		if chance.Intn(3) == 0 {
			f.There, f.Back = f.Back, f.There
		}
		if chance.Intn(5) == 0 {
			f.Back = flow(uint32(chance.Intn(names)), 0).Back
		}
		want, e := p.m.wouldAdd(f)
		p.add(f, want, e)
		return e
	}
	return api.OK
}

// P12.4: behind any calls a store is as it has to be.
func TestAnyCalls(t *testing.T) {
	answers := map[api.Errno]int{}
	for round := range 36 {
		chance := rand.New(rand.NewSource(int64(1200 + round)))
		room := []int{1, 2, 3, 10, 40, mostRoom}[round%6]
		span := []int{3, 30, 1000}[round/6%3]
		p := newPair(t, room)
		for i := range 600 {
			answers[p.step(chance, room*2, span)]++
			if i%(room+1) == 0 {
				p.same(flow(uint32(chance.Intn(room*2)), 0))
			}
			p.bounded()
		}
		p.same()
		p.tick(lastTime)
		p.same()
	}
	for _, e := range []api.Errno{api.OK, api.ErrArg, api.ErrState, api.ErrTwice, api.ErrFull} {
		if answers[e] < 20 {
			t.Errorf("%d: %d times", e, answers[e])
		}
	}
}

// bounded fails unless there are no more flows than the room, all of them ahead of their end.
func (p pair) bounded() {
	p.t.Helper()
	all := All(p.s)
	if len(all) > p.m.room {
		p.t.Fatalf("%d flows in a room of %d", len(all), p.m.room)
	}
	for _, f := range all {
		if f.Until <= p.m.now {
			p.t.Fatalf("%+v is there at %d", f, p.m.now)
		}
	}
}

// P12.4: all short tales of three names, two numbers and three times, each call in each place, are as they have to be.
func TestAllCalls(t *testing.T) {
	var calls []func(p pair)
	tuples := []api.Tuple{flow(1, 0).There, flow(1, 0).Back, flow(2, 0).There}
	for i, there := range tuples {
		back := tuples[(i+1)%3]
		for until := 1; until <= 2; until++ {
			f := api.Flow{There: there, Back: back, Until: until, Note: i}
			calls = append(calls, func(p pair) { num, e := p.m.wouldAdd(f); p.add(f, num, e) })
		}
	}
	other := flow(3, 2)
	calls = append(calls, func(p pair) { num, e := p.m.wouldAdd(other); p.add(other, num, e) })
	for num := range 2 {
		calls = append(calls, func(p pair) { p.drop(num) })
		for until := 1; until <= 3; until++ {
			calls = append(calls, func(p pair) { p.set(num, until, 5+num, p.m.wouldSet(num, until)) })
		}
	}
	for now := 1; now <= 3; now++ {
		calls = append(calls, func(p pair) { p.tick(now) })
	}
	const length = 4
	tales := 1
	for range length {
		tales *= len(calls)
	}
	for tale := range tales {
		p := newPair(t, 2)
		for range length {
			calls[tale%len(calls)](p)
			tale /= len(calls)
		}
		p.same(other)
		p.tick(3)
	}
}

// P12.4: each flow goes once, at the first tick that isn't ahead of its end; and in any ticks the same ones go as in one, in one order.
func TestTwoTicks(t *testing.T) {
	for round := range 40 {
		chance := rand.New(rand.NewSource(int64(12000 + round)))
		room := 1 + chance.Intn(100)
		one, more := newPair(t, room), newPair(t, room)
		for i := range room {
			f := flow(uint32(i), 1+chance.Intn(60))
			one.add(f, i, api.OK)
			more.add(f, i, api.OK)
		}
		var gone []uint32
		for now := 0; now < 60; {
			last := now
			now = min(60, now+chance.Intn(20))
			for _, f := range more.tick(now) {
				if f.Until <= last || f.Until > now {
					t.Fatalf("from %d to %d: %+v goes", last, now, f)
				}
				gone = append(gone, f.There.Src)
			}
		}
		if len(gone) != room {
			t.Fatalf("%d of %d go", len(gone), room)
		}
		one.gone(60, gone...)
	}
}

// P12.4: what is told hangs on what was asked alone.
func TestOnceMore(t *testing.T) {
	tell := func() []api.Flow {
		chance := rand.New(rand.NewSource(121))
		s, _ := New(30)
		var all []api.Flow
		now := 0
		for range 1000 {
			f := flow(uint32(chance.Intn(60)), now+chance.Intn(40))
			num, e := Add(s, f)
			found, back, _ := Find(s, flow(uint32(chance.Intn(60)), 0).Back)
			if back {
				found = -found
			}
			dropped, _ := Drop(s, chance.Intn(30))
			set := Set(s, chance.Intn(30), now+chance.Intn(40), chance.Int())
			all = append(all, dropped, api.Flow{Until: found, Note: int(set)}, api.Flow{Until: num, Note: int(e)})
			if chance.Intn(20) == 0 {
				now += chance.Intn(20)
				gone, _ := Tick(s, now)
				all = append(all, gone...)
			}
			all = append(all, All(s)...)
		}
		return all
	}
	first := tell()
	for range 3 {
		if !slices.Equal(first, tell()) {
			t.Fatal("it is another one")
		}
	}
}
