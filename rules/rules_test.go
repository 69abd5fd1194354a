package rules

import (
	"math"
	"math/rand"
	"reflect"
	"slices"
	"testing"

	"casemate/api"
)

// all is the rule that fits everything that has a port.
var all = api.Rule{From: -1, To: -1, Hi: 65535, Action: api.Allow}

// numbers are numbers around the edges of what may be, and far off.
var numbers = []int{math.MinInt, math.MinInt32, -256, -3, -2, -1, 0, 1, 2, 3, 5, 6, 7, 8, 9, 16, 17, 31, 32, 33, 64, 254, 255, 256, 257, 65534, 65535, 65536, 65537, math.MaxUint32, 1 << 32, 1<<32 + 1, math.MaxInt}

// sameBits tells whether the first bits of two addresses are the same, one by one.
func sameBits(a, b uint32, bits int) bool {
	for i := 0; i < bits; i++ {
		if a>>(31-i)&1 != b>>(31-i)&1 {
			return false
		}
	}
	return bits >= 0 && bits <= 32
}

// slowFits is what Fits has to answer.
func slowFits(r api.Rule, from, to int, t api.Tuple) bool {
	for _, z := range [][2]int{{r.From, from}, {r.To, to}} {
		if z[0] != -1 && z[0] != z[1] {
			return false
		}
	}
	if r.Proto != 0 && r.Proto != t.Proto {
		return false
	}
	if t.Dport < r.Lo || t.Dport > r.Hi {
		return false
	}
	return sameBits(t.Src, r.Src, r.SrcBits) && sameBits(t.Dst, r.Dst, r.DstBits)
}

// slowAsk is what Ask has to answer of rules that may be: it goes from the last rule to the first.
func slowAsk(l []api.Rule, from, to int, t api.Tuple) (int, int) {
	action, at := api.Deny, -1
	for i := len(l) - 1; i >= 0; i-- {
		if slowFits(l[i], from, to, t) {
			action, at = l[i].Action, i
		}
	}
	return action, at
}

// asks fails if the answer isn't this one.
func asks(t *testing.T, l []api.Rule, from, to int, who api.Tuple, action, at int) {
	t.Helper()
	if a, i := Ask(l, from, to, who); a != action || i != at {
		t.Errorf("Ask(%v, %d, %d, %v) = %d, %d; want %d, %d", l, from, to, who, a, i, action, at)
	}
}

// pairs fails if the places aren't these.
func pairs(t *testing.T, l []api.Rule, from, to int, want ...int) {
	t.Helper()
	if got := Pairs(l, from, to); !slices.Equal(got, want) {
		t.Errorf("Pairs(%v, %d, %d) = %v, want %v", l, from, to, got, want)
	}
}

// randomRule is a rule that may be, of few zones, nets and ports, so that many fit.
func randomRule(r *rand.Rand) api.Rule {
	lo := r.Intn(4)
	return api.Rule{
		From: r.Intn(4) - 1, To: r.Intn(4) - 1, Proto: []int{0, 0, 6, 17}[r.Intn(4)],
		Src: randomAddr(r), Dst: randomAddr(r), SrcBits: []int{0, 0, 1, 8, 31, 32}[r.Intn(6)], DstBits: []int{0, 0, 1, 8, 31, 32}[r.Intn(6)],
		Lo: lo, Hi: lo + r.Intn(4), Action: 1 + r.Intn(2),
	}
}

// randomAddr is one of few addresses.
func randomAddr(r *rand.Rand) uint32 {
	return []uint32{0x0a000001, 0x0a000000, 0x0a000002, 0x8a000001}[r.Intn(4)]
}

// randomRules are rules that may be.
func randomRules(r *rand.Rand, n int) []api.Rule {
	var list []api.Rule
	for len(list) < n {
		list = append(list, randomRule(r))
	}
	return list
}

// randomTuple is one that some rules fit.
func randomTuple(r *rand.Rand) api.Tuple {
	return api.Tuple{Proto: []int{6, 17, 1}[r.Intn(3)], Src: randomAddr(r), Sport: r.Intn(8), Dst: randomAddr(r), Dport: r.Intn(8)}
}

// wrongRules are rules that may not be, each by one thing.
func wrongRules() []api.Rule {
	var list []api.Rule
	for _, change := range []func(*api.Rule){
		func(r *api.Rule) { r.From = -2 }, func(r *api.Rule) { r.From = 8 }, func(r *api.Rule) { r.To = -2 }, func(r *api.Rule) { r.To = 8 },
		func(r *api.Rule) { r.Proto = -1 }, func(r *api.Rule) { r.Proto = 256 },
		func(r *api.Rule) { r.SrcBits = -1 }, func(r *api.Rule) { r.SrcBits = 33 }, func(r *api.Rule) { r.DstBits = -1 }, func(r *api.Rule) { r.DstBits = 33 },
		func(r *api.Rule) { r.Lo = -1 }, func(r *api.Rule) { r.Hi = 65536 }, func(r *api.Rule) { r.Lo, r.Hi = 5, 4 }, func(r *api.Rule) { r.Lo, r.Hi = 65536, 65536 }, func(r *api.Rule) { r.Lo, r.Hi = -1, -1 },
		func(r *api.Rule) { r.Action = 0 }, func(r *api.Rule) { r.Action = 3 }, func(r *api.Rule) { r.Action = -1 },
	} {
		r := all
		change(&r)
		list = append(list, r)
	}
	return list
}

// The chapter's example: a rule from any zone to any, of all nets and ports, that allows: all is allowed.
func TestExample(t *testing.T) {
	l := []api.Rule{all}
	if !Right(l) {
		t.Error("it may be")
	}
	r := rand.New(rand.NewSource(1))
	for i := 0; i < 500; i++ {
		who := api.Tuple{Proto: r.Intn(256), Src: r.Uint32(), Sport: r.Intn(65536), Dst: r.Uint32(), Dport: r.Intn(65536)}
		asks(t, l, r.Intn(8), r.Intn(8), who, api.Allow, 0)
	}
	asks(t, l, 0, 7, api.Tuple{}, api.Allow, 0)
	asks(t, l, 7, 0, api.Tuple{Proto: 255, Src: 0xffffffff, Sport: 65535, Dst: 0xffffffff, Dport: 65535}, api.Allow, 0)
}

// P14.1: each number of a rule has its bounds.
func TestRightBounds(t *testing.T) {
	for i, c := range []struct {
		change    func(*api.Rule, int)
		low, high int
	}{
		{func(r *api.Rule, n int) { r.From = n }, -1, 7},
		{func(r *api.Rule, n int) { r.To = n }, -1, 7},
		{func(r *api.Rule, n int) { r.Proto = n }, 0, 255},
		{func(r *api.Rule, n int) { r.SrcBits = n }, 0, 32},
		{func(r *api.Rule, n int) { r.DstBits = n }, 0, 32},
		{func(r *api.Rule, n int) { r.Lo = n }, 0, 65535},
		{func(r *api.Rule, n int) { r.Hi = n }, 0, 65535},
		{func(r *api.Rule, n int) { r.Lo, r.Hi = n, n }, 0, 65535},
		{func(r *api.Rule, n int) { r.Lo, r.Hi = 1000, n }, 1000, 65535},
		{func(r *api.Rule, n int) { r.Lo, r.Hi = n, 1000 }, 0, 1000},
		{func(r *api.Rule, n int) { r.Action = n }, 1, 2},
	} {
		for _, n := range append([]int{c.low - 1, c.low, c.low + 1, c.high - 1, c.high, c.high + 1}, numbers...) {
			r := all
			c.change(&r, n)
			if got, want := Right([]api.Rule{r}), n >= c.low && n <= c.high; got != want {
				t.Errorf("%d: Right(%v) = %v, want %v", i, r, got, want)
			}
		}
	}
}

// P14.1: the nets of a rule may be whatever they are, with bits behind those that count, too.
func TestRightNets(t *testing.T) {
	for bits := 0; bits <= 32; bits++ {
		for _, net := range []uint32{0, 1, 0x0a000001, 0x80000000, 0xffffffff} {
			r := all
			r.Src, r.SrcBits, r.Dst, r.DstBits = net, bits, ^net, 32-bits
			if !Right([]api.Rule{r}) {
				t.Errorf("%v may be", r)
			}
		}
	}
}

// P14.1: there are at most 64 rules, also none and the same ones, and each place counts.
func TestRightMany(t *testing.T) {
	if !Right(nil) || !Right([]api.Rule{}) {
		t.Error("no rules may be")
	}
	var l []api.Rule
	for n := 1; n <= 66; n++ {
		l = append(l, all)
		if Right(l) != (n <= 64) {
			t.Errorf("%d rules: %v", n, Right(l))
		}
	}
	for i := range l[:64] {
		for _, bad := range wrongRules() {
			some := slices.Clone(l[:64])
			some[i] = bad
			if Right(some) {
				t.Errorf("rule %d of 64, %v, may not be", i, bad)
			}
		}
	}
}

// P14.1: a zone of a rule fits itself, and -1 fits every one.
func TestFitsZones(t *testing.T) {
	for _, a := range numbers {
		for _, b := range numbers {
			r, s := all, all
			r.From, s.To = a, a
			for _, other := range []int{-1, 0, 3, 7} {
				want := a == -1 || a == b
				if Fits(r, b, other, api.Tuple{}) != want || Fits(s, other, b, api.Tuple{}) != want {
					t.Errorf("zone %d of a rule, zone %d: not %v", a, b, want)
				}
			}
			both := all
			both.From, both.To = a, b
			if !Fits(both, a, b, api.Tuple{}) {
				t.Errorf("%v fits what goes so", both)
			}
			if a != -1 && b != -1 && Fits(both, b, a, api.Tuple{}) != (a == b) {
				t.Errorf("%v from %d to %d", both, b, a)
			}
		}
	}
}

// P14.1: a protocol of a rule fits itself, and 0 fits every one; that of a tuple, 0, is fitted by no other one.
func TestFitsProto(t *testing.T) {
	for _, a := range numbers {
		for _, b := range numbers {
			r := all
			r.Proto = a
			if got, want := Fits(r, 0, 1, api.Tuple{Proto: b}), a == 0 || a == b; got != want {
				t.Errorf("protocol %d of a rule, %d of a tuple: %v", a, b, got)
			}
		}
	}
}

// P14.1: a port is from Lo to Hi, both among them; the source's port doesn't count.
func TestFitsPorts(t *testing.T) {
	for _, lo := range numbers {
		for _, hi := range numbers {
			for _, port := range numbers {
				r := all
				r.Lo, r.Hi = lo, hi
				want := lo <= port && port <= hi
				if Fits(r, 0, 1, api.Tuple{Dport: port}) != want || Fits(r, 0, 1, api.Tuple{Sport: 80, Dport: port}) != want {
					t.Fatalf("port %d from %d to %d: not %v", port, lo, hi, want)
				}
			}
		}
	}
}

// P14.1: the source stands in the one net, and who is spoken to in the other one.
func TestFitsNets(t *testing.T) {
	const here, there = 0x0a010203, 0xc0a85566
	for bits := -1; bits <= 33; bits++ {
		for at := 0; at < 32; at++ {
			want := bits >= 0 && bits <= at
			r, s := all, all
			r.Src, r.SrcBits = here^1<<(31-at), bits
			s.Dst, s.DstBits = there^1<<(31-at), bits
			who := api.Tuple{Src: here, Dst: there}
			if Fits(r, 0, 1, who) != want || Fits(s, 0, 1, who) != want {
				t.Errorf("nets of %d bits, apart by bit %d: not %v", bits, at, want)
			}
		}
		r := api.Rule{From: -1, To: -1, Src: here, Dst: there, SrcBits: bits, DstBits: bits, Hi: 1}
		if Fits(r, 0, 1, api.Tuple{Src: here, Dst: there}) != (bits >= 0 && bits <= 32) {
			t.Errorf("its own nets of %d bits", bits)
		}
		if Fits(r, 0, 1, api.Tuple{Src: there, Dst: here}) != (bits == 0) {
			t.Errorf("turned nets of %d bits", bits)
		}
	}
}

// P14.1: a rule that may not be fits as its numbers say; only a number of bits that is none fits nothing.
func TestFitsWrong(t *testing.T) {
	who := api.Tuple{Proto: 6, Dport: 70000}
	for _, c := range []struct {
		rule     api.Rule
		from, to int
		who      api.Tuple
		want     bool
	}{
		{api.Rule{}, 0, 0, api.Tuple{}, true},
		{api.Rule{}, 0, 0, api.Tuple{Dport: 1}, false},
		{api.Rule{From: -2, To: 9, Hi: 80000}, -2, 9, who, true},
		{api.Rule{From: -2, To: -1, Hi: 80000}, 0, 0, who, false},
		{api.Rule{From: -1, To: -1, Hi: 80000, Action: 77}, 0, 0, who, true},
		{api.Rule{From: -1, To: -1, Proto: 300, Hi: 80000}, 0, 0, who, false},
		{api.Rule{From: -1, To: -1, Proto: 300, Hi: 80000}, 0, 0, api.Tuple{Proto: 300}, true},
		{api.Rule{From: -1, To: -1, Proto: -1, Hi: 80000}, 0, 0, who, false},
		{api.Rule{From: -1, To: -1, Lo: 70001, Hi: 69999}, 0, 0, who, false},
		{api.Rule{From: -1, To: -1, SrcBits: 33, Hi: 80000}, 0, 0, who, false},
		{api.Rule{From: -1, To: -1, DstBits: 33, Hi: 80000}, 0, 0, who, false},
		{api.Rule{From: -1, To: -1, SrcBits: -1, Hi: 80000}, 0, 0, who, false},
		{api.Rule{From: -1, To: -1, DstBits: math.MinInt, Hi: 80000}, 0, 0, who, false},
		{api.Rule{From: -1, To: -1, DstBits: math.MaxInt, Hi: 80000}, 0, 0, who, false},
	} {
		if Fits(c.rule, c.from, c.to, c.who) != c.want {
			t.Errorf("Fits(%v, %d, %d, %v) isn't %v", c.rule, c.from, c.to, c.who, c.want)
		}
	}
}

// P14.1: what none fits, and what is asked of no rules, is denied, with no place.
func TestAskNone(t *testing.T) {
	asks(t, nil, 0, 1, api.Tuple{}, api.Deny, -1)
	asks(t, []api.Rule{}, 0, 1, api.Tuple{}, api.Deny, -1)
	l := []api.Rule{{From: 0, To: 1, Proto: 6, Lo: 80, Hi: 80, Action: api.Allow}}
	asks(t, l, 0, 1, api.Tuple{Proto: 6, Dport: 80}, api.Allow, 0)
	asks(t, l, 0, 1, api.Tuple{Proto: 6, Dport: 81}, api.Deny, -1)
	asks(t, l, 0, 1, api.Tuple{Proto: 17, Dport: 80}, api.Deny, -1)
	asks(t, l, 1, 0, api.Tuple{Proto: 6, Dport: 80}, api.Deny, -1)
}

// P14.1: the first that fits is told, with its Action, at each place.
func TestAskFirst(t *testing.T) {
	for at := 0; at < 64; at++ {
		for action := api.Deny; action <= api.Allow; action++ {
			var l []api.Rule
			for i := 0; i < 64; i++ {
				r := all
				r.Lo, r.Hi, r.Action = i, i, 3-action
				l = append(l, r)
			}
			l[at].Action = action
			asks(t, l, 2, 3, api.Tuple{Dport: at}, action, at)
			l[at].Hi = 65535
			asks(t, l, 2, 3, api.Tuple{Dport: 64}, action, at)
		}
	}
}

// P14.1: of rules that may not be, everything is denied, and no two zones have one, also where a right one fits.
func TestAskWrong(t *testing.T) {
	for _, bad := range wrongRules() {
		for _, l := range [][]api.Rule{{bad}, {all, bad}, {bad, all}, {all, bad, all}} {
			asks(t, l, 0, 1, api.Tuple{Dport: 4}, api.Deny, -1)
			pairs(t, l, 0, 1)
		}
	}
	many := make([]api.Rule, 65)
	for i := range many {
		many[i] = all
	}
	asks(t, many, 0, 1, api.Tuple{}, api.Deny, -1)
	pairs(t, many, 0, 1)
	asks(t, many[:64], 0, 1, api.Tuple{}, api.Allow, 0)
	if len(Pairs(many[:64], 0, 1)) != 64 {
		t.Error("64 rules fit")
	}
}

// P14.1: Pairs looks at the zones alone, and tells the places in order.
func TestPairs(t *testing.T) {
	var l []api.Rule
	for from := -1; from < 7; from++ {
		for to := -1; to < 7; to++ {
			l = append(l, api.Rule{From: from, To: to, Proto: from + 1, Src: 5, Dst: 6, SrcBits: 32, DstBits: 32, Lo: 9, Hi: 9, Action: 1 + (from+to+2)%2})
		}
	}
	at := func(from, to int) int { return 8*(from+1) + to + 1 }
	for from := 0; from < 7; from++ {
		for to := 0; to < 7; to++ {
			pairs(t, l, from, to, at(-1, -1), at(-1, to), at(from, -1), at(from, to))
		}
		pairs(t, l, from, 7, at(-1, -1), at(from, -1))
		pairs(t, l, 7, from, at(-1, -1), at(-1, from))
		pairs(t, l, from, math.MinInt, at(-1, -1), at(from, -1))
	}
	pairs(t, l, 7, 7, at(-1, -1))
	pairs(t, l, -1, -1, at(-1, -1))
	pairs(t, l[1:], 7, 7)
	pairs(t, nil, 0, 0)
	pairs(t, []api.Rule{}, 0, 0)
}

// P14.1, P14.2: rules at random against the slow way; who is asked of is among the pairs.
func TestRandom(t *testing.T) {
	r := rand.New(rand.NewSource(2))
	found := 0
	for i := 0; i < 3000; i++ {
		l := randomRules(r, r.Intn(65))
		for j := 0; j < 20; j++ {
			from, to, who := r.Intn(4)-1, r.Intn(4)-1, randomTuple(r)
			action, at := slowAsk(l, from, to, who)
			asks(t, l, from, to, who, action, at)
			if at >= 0 {
				found++
			}
			if at >= 0 && !slices.Contains(Pairs(l, from, to), at) {
				t.Errorf("rule %d of %v isn't among those of %d and %d", at, l, from, to)
			}
		}
	}
	if found == 0 {
		t.Error("no rule fitted at all")
	}
}

// P14.2: a rule behind one that fits wherever it fits is never asked.
func TestBehindWider(t *testing.T) {
	r := rand.New(rand.NewSource(3))
	for i := 0; i < 2000; i++ {
		narrow := randomRule(r)
		wide := narrow
		wide.Action = 1 + r.Intn(2)
		for _, widen := range []func(){
			func() { wide.From = -1 }, func() { wide.To = -1 }, func() { wide.Proto = 0 },
			func() { wide.SrcBits = r.Intn(narrow.SrcBits + 1) }, func() { wide.DstBits = r.Intn(narrow.DstBits + 1) },
			func() { wide.Lo, wide.Hi = r.Intn(narrow.Lo+1), narrow.Hi+r.Intn(3) },
		} {
			if r.Intn(2) == 0 {
				widen()
			}
		}
		l := slices.Concat(randomRules(r, r.Intn(3)), []api.Rule{wide}, randomRules(r, r.Intn(3)))
		at := len(l)
		l = append(l, narrow)
		for j := 0; j < 10; j++ {
			from, to, who := r.Intn(4)-1, r.Intn(4)-1, randomTuple(r)
			if _, got := Ask(l, from, to, who); got == at {
				t.Fatalf("%v behind a wider one was asked of %v", l, who)
			}
			action, got := Ask(l[:at], from, to, who)
			asks(t, l, from, to, who, action, got)
		}
	}
}

// P14.2: what is put behind all rules changes nothing that one of them fits.
func TestPutBehind(t *testing.T) {
	r := rand.New(rand.NewSource(4))
	fits, not := 0, 0
	for i := 0; i < 3000; i++ {
		l := randomRules(r, 1+r.Intn(6))
		n := 1 + r.Intn(len(l))
		from, to, who := r.Intn(3), r.Intn(3), randomTuple(r)
		action, at := Ask(l[:n], from, to, who)
		if at < 0 {
			not++
			if _, got := Ask(l, from, to, who); got >= 0 && got < n {
				t.Fatalf("%v: rule %d fits only with others behind it", l, got)
			}
			continue
		}
		fits++
		asks(t, l, from, to, who, action, at)
	}
	if fits == 0 || not == 0 {
		t.Error(fits, not)
	}
}

// P14.2: denied is whatever no rule allows: without the rules that allow, everything is.
func TestDenied(t *testing.T) {
	r := rand.New(rand.NewSource(5))
	for i := 0; i < 2000; i++ {
		l := randomRules(r, r.Intn(9))
		from, to, who := r.Intn(3), r.Intn(3), randomTuple(r)
		action, at := Ask(l, from, to, who)
		if action == api.Allow && (at < 0 || l[at].Action != api.Allow || !Fits(l[at], from, to, who)) {
			t.Fatalf("%v: %v is allowed by none", l, who)
		}
		if action != api.Allow && action != api.Deny {
			t.Fatalf("%d is no action", action)
		}
		for j := range l {
			l[j].Action = api.Deny
		}
		asks(t, l, from, to, who, api.Deny, at)
	}
}

// What is handed in is neither changed nor kept, answers are new memory, and the same question has the same answer.
func TestOnceMore(t *testing.T) {
	r := rand.New(rand.NewSource(6))
	room := randomRules(r, 30)
	room = append(room, all)
	before := slices.Clone(room)
	l := room[:20]
	for i := 0; i < 500; i++ {
		from, to, who := r.Intn(3), r.Intn(3), randomTuple(r)
		action, at := Ask(l, from, to, who)
		places := Pairs(l, from, to)
		first := slices.Clone(places)
		Ask(room[20:], to, from, randomTuple(r))
		other := Pairs(l, from, to)
		for j := range other {
			other[j] = -7
		}
		asks(t, l, from, to, who, action, at)
		if !slices.Equal(places, first) || !slices.Equal(Pairs(l, from, to), first) {
			t.Fatal("two answers share memory")
		}
	}
	if !reflect.DeepEqual(room, before) {
		t.Error("the rules were changed")
	}
	l = []api.Rule{all}
	asks(t, l, 0, 1, api.Tuple{}, api.Allow, 0)
	l[0].Action = api.Deny
	asks(t, l, 0, 1, api.Tuple{}, api.Deny, 0)
}
