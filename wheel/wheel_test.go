package wheel

import (
	"math"
	"math/rand"
	"reflect"
	"slices"
	"testing"

	"casemate/api"
)

const (
	lastNum  = 2147483647
	lastTime = 1099511627776
)

// slow is a wheel as the chapter tells it, without a heap.
type slow struct {
	now int
	at  map[int]int
}

func newSlow() *slow { return &slow{at: map[int]int{}} }

// set does what Set has to.
func (s *slow) set(num, at int) api.Errno {
	_, ok := s.at[num]
	switch {
	case num < 0 || num > lastNum || at < 0 || at > lastTime:
		return api.ErrArg
	case at <= s.now:
		return api.ErrState
	case !ok && len(s.at) >= 256:
		return api.ErrFull
	}
	s.at[num] = at
	return api.OK
}

// drop does what Drop has to.
func (s *slow) drop(num int) api.Errno {
	if _, ok := s.at[num]; !ok {
		return api.ErrNone
	}
	delete(s.at, num)
	return api.OK
}

// tick does what Tick has to.
func (s *slow) tick(now int) ([]int, api.Errno) {
	if now < s.now || now > lastTime {
		return nil, api.ErrArg
	}
	s.now = now
	var due []int
	for num, at := range s.at {
		if at <= now {
			due = append(due, num)
		}
	}
	slices.SortFunc(due, func(a, b int) int {
		if s.at[a] != s.at[b] {
			return s.at[a] - s.at[b]
		}
		return a - b
	})
	for _, num := range due {
		delete(s.at, num)
	}
	return due, api.OK
}

// pair is a wheel, and what it has to be.
type pair struct {
	t *testing.T
	w *Wheel
	s *slow
}

func newPair(t *testing.T) pair { return pair{t, New(), newSlow()} }

// pairWith is a pair of wheels whose time is now, and that have these alarms, each a number and a time.
func pairWith(t *testing.T, now int, alarms ...[2]int) pair {
	t.Helper()
	p := newPair(t)
	p.tick(now)
	for _, a := range alarms {
		p.set(a[0], a[1], api.OK)
	}
	return p
}

// same fails unless the wheel is seen as it has to be, at these numbers beside all that wait.
func (p pair) same(nums ...int) {
	p.t.Helper()
	if Waits(p.w) != len(p.s.at) || Now(p.w) != p.s.now {
		p.t.Fatalf("%d wait at %d instead of %d at %d", Waits(p.w), Now(p.w), len(p.s.at), p.s.now)
	}
	for num := range p.s.at {
		nums = append(nums, num)
	}
	for _, num := range nums {
		want, has := p.s.at[num]
		if at, ok := When(p.w, num); at != want || ok != has {
			p.t.Fatalf("%d: %d, %t instead of %d, %t", num, at, ok, want, has)
		}
	}
}

// set fails unless both answer this.
func (p pair) set(num, at int, e api.Errno) {
	p.t.Helper()
	want, is := p.s.set(num, at), Set(p.w, num, at)
	if want != e || is != e {
		p.t.Fatalf("set %d at %d: %d instead of %d, or of %d", num, at, is, e, want)
	}
	p.same(num)
}

// drop fails unless both answer this.
func (p pair) drop(num int, e api.Errno) {
	p.t.Helper()
	want, is := p.s.drop(num), Drop(p.w, num)
	if want != e || is != e {
		p.t.Fatalf("drop %d: %d instead of %d, or of %d", num, is, e, want)
	}
	p.same(num)
}

// tick fails unless both answer the same.
func (p pair) tick(now int) []int {
	p.t.Helper()
	want, e := p.s.tick(now)
	l, is := Tick(p.w, now)
	if !slices.Equal(l, want) || is != e {
		p.t.Fatalf("tick to %d: %v, %d instead of %v, %d", now, l, is, want, e)
	}
	p.same(l...)
	return l
}

// due fails unless just these are due when the time is now.
func (p pair) due(now int, want ...int) {
	p.t.Helper()
	if l := p.tick(now); !slices.Equal(l, want) {
		p.t.Fatalf("tick to %d: %v instead of %v", now, l, want)
	}
}

// many are the numbers from one on, each with the time of a short rule.
func many(from, count int) [][2]int {
	var list [][2]int
	for i := range count {
		list = append(list, [2]int{from + i, 1000 + i*37%101})
	}
	return list
}

// The chapter's example: of 7 at 5 and 8 at 3, 8 is due at 4, and 7 at 9.
func TestExample(t *testing.T) {
	w := New()
	if Set(w, 7, 5) != api.OK || Set(w, 8, 3) != api.OK {
		t.Fatal("they aren't set")
	}
	for _, x := range []struct {
		now  int
		want []int
	}{{4, []int{8}}, {9, []int{7}}} {
		if l, e := Tick(w, x.now); e != api.OK || !slices.Equal(l, x.want) {
			t.Errorf("%d: %v, %d", x.now, l, e)
		}
	}
}

// No wheel answers ErrArg, nothing, 0 and false.
func TestNil(t *testing.T) {
	for _, n := range []int{0, 1, 7, -1, lastNum, lastTime, lastTime + 1, math.MaxInt, math.MinInt} {
		if e := Set(nil, n, n); e != api.ErrArg {
			t.Errorf("set %d: %d", n, e)
		}
		if e := Set(nil, 1, n); e != api.ErrArg {
			t.Errorf("set 1 at %d: %d", n, e)
		}
		if e := Drop(nil, n); e != api.ErrArg {
			t.Errorf("drop %d: %d", n, e)
		}
		if l, e := Tick(nil, n); len(l) != 0 || e != api.ErrArg {
			t.Errorf("tick to %d: %v, %d", n, l, e)
		}
		if at, ok := When(nil, n); at != 0 || ok {
			t.Errorf("when %d: %d, %t", n, at, ok)
		}
	}
	if Waits(nil) != 0 || Now(nil) != 0 {
		t.Error("it has something")
	}
}

// P11.1: a new wheel has no alarms, and its time is 0; so has one that is made by its type alone.
func TestNew(t *testing.T) {
	for name, made := range map[string]func() *Wheel{"new": New, "of its type": func() *Wheel { return new(Wheel) }} {
		t.Run(name, func(t *testing.T) {
			if made() == nil {
				t.Fatal("it is none")
			}
			for _, first := range []func(p pair){
				func(p pair) { p.same(0, 1, -1, lastNum) },
				func(p pair) { p.drop(0, api.ErrNone) },
				func(p pair) { p.due(0) },
				func(p pair) { p.due(lastTime) },
				func(p pair) { p.set(0, 1, api.OK); p.due(1, 0) },
				func(p pair) { p.set(0, 0, api.ErrState); p.due(1) },
			} {
				first(pair{t, made(), newSlow()})
			}
		})
	}
}

// P11.1: two wheels have nothing in common.
func TestNewApart(t *testing.T) {
	a, b := newPair(t), newPair(t)
	a.set(1, 5, api.OK)
	b.same(1)
	b.set(1, 3, api.OK)
	b.set(2, 4, api.OK)
	a.same(1, 2)
	b.due(3, 1)
	a.same(1, 2)
	a.due(9, 1)
	b.due(9, 2)
}

// What a wheel is can be changed by the chapter's calls alone: it shows no methods of its heap, and no parts.
func TestNoMethods(t *testing.T) {
	w := reflect.TypeFor[*Wheel]()
	if w.NumMethod() != 0 {
		t.Errorf("%d methods, the first one %s", w.NumMethod(), w.Method(0).Name)
	}
	for f := range w.Elem().Fields() {
		if f.IsExported() {
			t.Error(f.Name)
		}
	}
}

// P11.1: which numbers and times an alarm may have.
func TestSet(t *testing.T) {
	for _, num := range []int{0, 1, 2, 255, 256, 1 << 16, 1 << 30, lastNum - 1, lastNum} {
		for _, at := range []int{1, 2, 255, 1 << 31, 1 << 32, 1<<32 + 1, lastTime - 1, lastTime} {
			p := newPair(t)
			p.set(num, at, api.OK)
			if x, ok := When(p.w, num); x != at || !ok {
				t.Errorf("%d at %d: %d, %t", num, at, x, ok)
			}
			p.due(at - 1)
			p.due(at, num)
		}
	}
}

// P11.1: an argument that may not be is told first, and nothing is changed.
func TestSetWrong(t *testing.T) {
	wrongNums := []int{-1, -2, lastNum + 1, 1 << 32, 1<<32 + 5, -lastNum, -1 << 32, math.MaxInt, math.MinInt}
	wrongTimes := []int{-1, -2, -5, lastTime + 1, lastTime * 2, -lastTime, math.MaxInt, math.MinInt}
	full := pairWith(t, 50, many(0, 256)...)
	for _, p := range []pair{newPair(t), pairWith(t, 50, [2]int{5, 70}), full, pairWith(t, lastTime)} {
		for _, num := range wrongNums {
			for _, at := range append([]int{0, 1, 49, 50, 51, 60, 70, lastTime}, wrongTimes...) {
				p.set(num, at, api.ErrArg)
			}
		}
		for _, at := range wrongTimes {
			for _, num := range []int{0, 5, 255, 256, lastNum} {
				p.set(num, at, api.ErrArg)
			}
		}
	}
}

// P11.1: an alarm is above the wheel's time, at whatever time, and an elder one of the number stays where the new one isn't.
func TestSetNotNow(t *testing.T) {
	for _, now := range []int{0, 1, 2, 1000, 1 << 32, lastTime - 1} {
		p := pairWith(t, now)
		for _, at := range []int{0, 1, now - 1, now} {
			if at >= 0 && at <= now {
				p.set(5, at, api.ErrState)
			}
		}
		p.set(5, now+1, api.OK)
		p.set(5, now, api.ErrState)
		p.set(5, 0, api.ErrState)
		p.due(now)
		p.due(now+1, 5)
		p.set(5, now+1, api.ErrState)
	}
	p := pairWith(t, lastTime)
	for _, at := range []int{0, 1, lastTime - 1, lastTime} {
		p.set(1, at, api.ErrState)
	}
}

// P11.1: a number has one alarm, the last one that was set.
func TestSetAnew(t *testing.T) {
	for _, at := range []int{1, 9, 10, 11, 15, 19, 20, 21, 25, 29, 30, 31, lastTime} {
		for _, num := range []int{4, 5, 6} {
			p := pairWith(t, 0, [2]int{4, 10}, [2]int{5, 20}, [2]int{6, 30})
			p.set(num, at, api.OK)
			if Waits(p.w) != 3 {
				t.Errorf("%d at %d: %d wait", num, at, Waits(p.w))
			}
			for _, now := range []int{at - 1, at, 10, 20, 30, lastTime} {
				if now >= Now(p.w) {
					p.tick(now)
				}
			}
		}
	}
	p := newPair(t)
	for at := 500; at > 0; at-- {
		p.set(7, at, api.OK)
	}
	p.due(1, 7)
	p.due(500)
}

// P11.1: what was due may be set again.
func TestSetAgain(t *testing.T) {
	p := newPair(t)
	for at := 1; at < 600; at++ {
		p.set(7, at, api.OK)
		p.due(at, 7)
	}
	p.set(8, 600, api.OK)
	p.drop(8, api.OK)
	p.set(8, 601, api.OK)
	p.due(600)
	p.due(601, 8)
}

// P11.1: MaxFlows alarms wait at most; one that waits may be set anew nevertheless, and a time that isn't ahead is told first.
func TestSetFull(t *testing.T) {
	p := pairWith(t, 50, many(100, 255)...)
	p.set(1000, 1050, api.OK)
	full := []int{0, 99, 355, 999, 1001, lastNum}
	for _, num := range full {
		p.set(num, 51, api.ErrFull)
		p.set(num, 1050, api.ErrFull)
		p.set(num, lastTime, api.ErrFull)
		p.set(num, 50, api.ErrState)
		p.set(num, 0, api.ErrState)
		p.drop(num, api.ErrNone)
	}
	for _, num := range []int{100, 101, 228, 354, 1000} {
		p.set(num, 50, api.ErrState)
		p.set(num, 51, api.OK)
		p.set(num, lastTime, api.OK)
		p.set(num, 1049, api.OK)
		p.set(0, 1049, api.ErrFull)
	}
	if Waits(p.w) != api.MaxFlows {
		t.Fatal(Waits(p.w))
	}
	p.drop(200, api.OK)
	p.set(0, 2000, api.OK)
	p.set(200, 2000, api.ErrFull)
	p.due(999)
	p.set(200, 2000, api.ErrFull)
	p.tick(1000)
	p.set(200, 2000, api.OK)
	p.tick(lastTime)
	if Waits(p.w) != 0 {
		t.Fatal(Waits(p.w))
	}
}

// P11.1: a wheel may be filled and emptied over and over.
func TestSetManyTimes(t *testing.T) {
	p := newPair(t)
	for round := range 4 {
		from := round * 300
		for i := range api.MaxFlows {
			p.set(from+i, (round+1)*1000+i%7, api.OK)
		}
		p.set(lastNum, lastTime, api.ErrFull)
		if round%2 == 0 {
			p.tick((round+1)*1000 + 6)
			continue
		}
		for i := range api.MaxFlows {
			p.drop(from+(i*101)%api.MaxFlows, api.OK)
		}
	}
	p.same(0, 1, 300, 301, 600, 900)
}

// P11.1: an alarm that isn't there isn't dropped: it was never set, was dropped, was due, or may not be.
func TestDropNone(t *testing.T) {
	p := newPair(t)
	none := []int{0, 1, 4, 6, lastNum, -1, -5, lastNum + 1, 1<<32 + 5, math.MaxInt, math.MinInt}
	for _, num := range none {
		p.drop(num, api.ErrNone)
	}
	p.set(5, 10, api.OK)
	for _, num := range none {
		p.drop(num, api.ErrNone)
	}
	p.drop(5, api.OK)
	p.drop(5, api.ErrNone)
	p.set(0, 10, api.OK)
	p.set(5, 11, api.OK)
	p.due(10, 0)
	p.drop(0, api.ErrNone)
	p.drop(5, api.OK)
	p.due(lastTime)
	p.drop(5, api.ErrNone)
}

// P11.1: whichever alarm is dropped, it is not due, and all others are.
func TestDrop(t *testing.T) {
	for _, count := range []int{1, 2, 3, 4, 7, 8, 20, 64} {
		for i := range count {
			list := many(10, count)
			p := pairWith(t, 0, list...)
			p.drop(10+i, api.OK)
			if l := p.tick(lastTime); len(l) != count-1 || slices.Contains(l, 10+i) {
				t.Errorf("%d of %d: %v", i, count, l)
			}
		}
	}
}

// P11.2: due is what is not above the time, and nothing else.
func TestTick(t *testing.T) {
	p := pairWith(t, 0, [2]int{1, 10}, [2]int{2, 11}, [2]int{3, 9}, [2]int{4, lastTime}, [2]int{0, lastTime - 1})
	p.due(0)
	p.due(8)
	p.due(8)
	p.due(9, 3)
	p.due(9)
	p.set(3, 10, api.OK)
	p.due(11, 1, 3, 2)
	p.due(lastTime - 2)
	p.due(lastTime-1, 0)
	p.due(lastTime - 1)
	p.due(lastTime, 4)
	p.due(lastTime)
}

// P11.2: what is due goes by the times, of one time by the numbers, however it was set.
func TestTickOrder(t *testing.T) {
	alarms := [][2]int{{3, 10}, {9, 2}, {5, 7}, {4, 10}, {lastNum, 2}, {0, 10}, {8, 7}, {1, 11}}
	chance := rand.New(rand.NewSource(11))
	for range 500 {
		chance.Shuffle(len(alarms), func(i, j int) { alarms[i], alarms[j] = alarms[j], alarms[i] })
		p := pairWith(t, 0, alarms...)
		p.due(11, 9, lastNum, 5, 8, 0, 3, 4, 1)
	}
	for count := 1; count <= api.MaxFlows; count += 17 {
		p := newPair(t)
		var want []int
		for i := range count {
			p.set(count-i, 5, api.OK)
			want = append(want, i+1)
		}
		p.due(5, want...)
	}
}

// P11.2: the time doesn't go back, nor beyond its bound; then nothing is due, and all stays.
func TestTickWrong(t *testing.T) {
	for _, now := range []int{0, 1, 7, 1 << 32, lastTime - 5} {
		p := pairWith(t, now, [2]int{5, now + 1}, [2]int{6, now + 2}, [2]int{7, lastTime})
		for _, x := range []int{now - 1, -1, -7, math.MinInt, lastTime + 1, lastTime + 2, lastTime * 4, math.MaxInt, now - 1<<32} {
			if l, e := Tick(p.w, x); len(l) != 0 || e != api.ErrArg {
				t.Errorf("from %d to %d: %v, %d", now, x, l, e)
			}
			p.same(5, 6, 7)
		}
		p.due(now+1, 5)
		p.due(lastTime, 6, 7)
		for _, x := range []int{0, now, lastTime - 1, lastTime + 1} {
			if l, e := Tick(p.w, x); len(l) != 0 || e != api.ErrArg {
				t.Errorf("from the end to %d: %v, %d", x, l, e)
			}
		}
		p.same(5, 6, 7)
	}
}

// P11.2: what is answered is the asker's own.
func TestTickAnswer(t *testing.T) {
	p := pairWith(t, 0, many(0, 200)...)
	a := p.tick(1020)
	before := slices.Clone(a)
	for i := range a[:cap(a)] {
		a[:cap(a)][i] = -77
	}
	p.same(before...)
	b := p.tick(1060)
	wanted := slices.Clone(b)
	for i := range 50 {
		p.set(i, 2000+i, api.OK)
	}
	c := p.tick(lastTime)
	for i := range c[:cap(c)] {
		c[:cap(c)][i] = -78
	}
	if !slices.Equal(b, wanted) || slices.ContainsFunc(a, func(n int) bool { return n != -77 }) {
		t.Error("two answers are one")
	}
	if len(a) == 0 || len(b) == 0 || len(c) == 0 {
		t.Error(len(a), len(b), len(c))
	}
}

// P11.2: when an alarm is, how many wait, and the time; asking changes nothing.
func TestWhen(t *testing.T) {
	p := pairWith(t, 3, [2]int{0, 10}, [2]int{lastNum, lastTime}, [2]int{7, 4})
	for range 3 {
		for num, want := range map[int]int{0: 10, lastNum: lastTime, 7: 4, 1: 0, 10: 0, -1: 0, lastNum + 1: 0, 1<<32 + 7: 0, math.MinInt: 0, math.MaxInt: 0} {
			if at, ok := When(p.w, num); at != want || ok != (want != 0) {
				t.Errorf("%d: %d, %t", num, at, ok)
			}
		}
		if Waits(p.w) != 3 || Now(p.w) != 3 {
			t.Errorf("%d wait at %d", Waits(p.w), Now(p.w))
		}
	}
	p.due(4, 7)
	if at, ok := When(p.w, 7); at != 0 || ok || Waits(p.w) != 2 || Now(p.w) != 4 {
		t.Errorf("%d, %t, %d wait at %d", at, ok, Waits(p.w), Now(p.w))
	}
}

// P11.3: behind any calls a wheel is as it has to be.
func TestAnyCalls(t *testing.T) {
	answers := map[api.Errno]int{}
	for round := range 60 {
		chance := rand.New(rand.NewSource(int64(1100 + round)))
		nums := []int{5, 40, 300, 600}[round%4]
		span := []int{3, 30, 1000}[round%3]
		p := newPair(t)
		for range 1500 {
			num := chance.Intn(nums)
			switch chance.Intn(50) {
			case 0:
				p.tick(p.s.now + chance.Intn(span/4+3) - 1)
			case 1, 2, 3:
				p.drop(num, p.wouldDrop(num))
			default:
				at := p.s.now + chance.Intn(span+2) - 1
				e := p.wouldSet(num, at)
				p.set(num, at, e)
				answers[e]++
			}
		}
		p.tick(lastTime)
	}
	for _, e := range []api.Errno{api.OK, api.ErrArg, api.ErrState, api.ErrFull} {
		if answers[e] < 20 {
			t.Errorf("%d: %d times", e, answers[e])
		}
	}
}

// wouldSet is what Set has to answer, and changes nothing.
func (p pair) wouldSet(num, at int) api.Errno {
	elder, ok := p.s.at[num]
	e := p.s.set(num, at)
	if ok {
		p.s.at[num] = elder
	} else {
		delete(p.s.at, num)
	}
	return e
}

// wouldDrop is what Drop has to answer, and changes nothing.
func (p pair) wouldDrop(num int) api.Errno {
	if _, ok := p.s.at[num]; ok {
		return api.OK
	}
	return api.ErrNone
}

// P11.3: all short tales of three numbers and three times, each call in each place, are as they have to be.
func TestAllCalls(t *testing.T) {
	var calls []func(p pair)
	for num := range 3 {
		for at := 1; at <= 3; at++ {
			calls = append(calls, func(p pair) { p.set(num, at, p.wouldSet(num, at)) })
		}
		calls = append(calls, func(p pair) { p.drop(num, p.wouldDrop(num)) })
	}
	for now := 1; now <= 3; now++ {
		calls = append(calls, func(p pair) { p.tick(now) })
	}
	const length = 4
	tales := 1
	for range length {
		tales *= len(calls)
	}
	for tale := range tales {
		p := newPair(t)
		for range length {
			calls[tale%len(calls)](p)
			tale /= len(calls)
		}
		p.tick(3)
	}
}

// P11.3: each alarm is due once, at the first tick that isn't ahead of it; and in any ticks the same is due as in one, in one order.
func TestTwoTicks(t *testing.T) {
	for round := range 200 {
		chance := rand.New(rand.NewSource(int64(11000 + round)))
		one, more := newPair(t), newPair(t)
		for range 1 + chance.Intn(300) {
			num, at := chance.Intn(400), 1+chance.Intn(60)
			e := one.wouldSet(num, at)
			one.set(num, at, e)
			more.set(num, at, e)
		}
		set := len(one.s.at)
		var due []int
		for now := 0; now < 60; {
			last := now
			now = min(60, now+chance.Intn(20))
			times := map[int]int{}
			for num, at := range more.s.at {
				times[num] = at
			}
			l := more.tick(now)
			for _, num := range l {
				if times[num] <= last || times[num] > now {
					t.Fatalf("from %d to %d: %d is due at %d", last, now, num, times[num])
				}
			}
			due = append(due, l...)
		}
		one.due(60, due...)
		sorted := slices.Clone(due)
		slices.Sort(sorted)
		if len(slices.Compact(sorted)) != set {
			t.Fatalf("%d of %d are due", len(due), set)
		}
	}
}

// P11.3: what is told hangs on what was asked alone.
func TestOnceMore(t *testing.T) {
	tell := func() []int {
		chance := rand.New(rand.NewSource(111))
		w := New()
		var all []int
		for range 5000 {
			num := chance.Intn(300)
			all = append(all, int(Set(w, num, Now(w)+chance.Intn(40))))
			all = append(all, int(Drop(w, chance.Intn(300))))
			if chance.Intn(20) == 0 {
				l, e := Tick(w, Now(w)+chance.Intn(30))
				all = append(append(all, l...), int(e))
			}
			at, _ := When(w, num)
			all = append(all, at, Waits(w), Now(w))
		}
		return all
	}
	first := tell()
	for range 3 {
		if !slices.Equal(first, tell()) {
			t.Fatal("it is another one")
		}
	}
}
