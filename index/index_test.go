package index

import (
	"encoding/binary"
	"fmt"
	"hash/fnv"
	"math"
	"math/rand"
	"slices"
	"testing"

	"casemate/api"
)

// homeOf is a key's home among so many places, with the hash of the library, which is the document's.
func homeOf(k api.Tuple, places int) int {
	b := []byte{byte(k.Proto)}
	b = binary.BigEndian.AppendUint32(b, k.Src)
	b = binary.BigEndian.AppendUint16(b, uint16(k.Sport))
	b = binary.BigEndian.AppendUint32(b, k.Dst)
	b = binary.BigEndian.AppendUint16(b, uint16(k.Dport))
	h := fnv.New32a()
	h.Write(b)
	return int(h.Sum32()) % places
}

// keyAt is the n-th key, from 0 on, of a home.
func keyAt(places, home, n int) api.Tuple {
	for i := 0; ; i++ {
		k := api.Tuple{Proto: 17, Src: uint32(i), Sport: 5000, Dst: 0x08080808, Dport: 53}
		if homeOf(k, places) != home {
			continue
		}
		if n == 0 {
			return k
		}
		n--
	}
}

// keysAt are so many keys of a home.
func keysAt(places, home, count int) []api.Tuple {
	var list []api.Tuple
	for i := 0; len(list) < count; i++ {
		if k := (api.Tuple{Proto: 6, Src: uint32(i), Sport: 80}); homeOf(k, places) == home {
			list = append(list, k)
		}
	}
	return list
}

// cell is a place with a key.
func cell(k api.Tuple, n int) api.Cell { return api.Cell{Used: true, Key: k, Num: n} }

// slowPlace is where a key is, or would be put: the first one, of all places from its home on, that has it or is empty. It is -1, if there is none.
func slowPlace(l []api.Cell, k api.Tuple) int {
	home := homeOf(k, len(l))
	for step := 0; step < len(l); step++ {
		if c := l[(home+step)%len(l)]; !c.Used || c.Key == k {
			return (home + step) % len(l)
		}
	}
	return -1
}

// slowRight tells whether a table is right, word by word as the chapter does.
func slowRight(l []api.Cell) bool {
	if !slices.Contains([]int{2, 4, 8, 16, 32, 64, 128, 256, 512, 1024}, len(l)) {
		return false
	}
	if !slices.ContainsFunc(l, func(c api.Cell) bool { return !c.Used }) {
		return false
	}
	for i, c := range l {
		if !c.Used && (c.Key != api.Tuple{} || c.Num != 0) {
			return false
		}
		if c.Used && slowPlace(l, c.Key) != i {
			return false
		}
		k := c.Key
		if k.Proto < 0 || k.Proto > 255 || k.Sport < 0 || k.Sport > 65535 || k.Dport < 0 || k.Dport > 65535 {
			return false
		}
	}
	return true
}

// slowDel is a table that is right without a key that it has: all behind it are taken out one by one, and put anew.
func slowDel(l []api.Cell, k api.Tuple) []api.Cell {
	l = slices.Clone(l)
	from := slowPlace(l, k)
	end := from
	for l[end].Used {
		end = (end + 1) % len(l)
	}
	l[from] = api.Cell{}
	for i := (from + 1) % len(l); i != end; i = (i + 1) % len(l) {
		c := l[i]
		l[i] = api.Cell{}
		l[slowPlace(l, c.Key)] = c
	}
	return l
}

// filled is a table of so many places, in which the keys were put with the numbers 1, 2 and so on.
func filled(t *testing.T, places int, keys ...api.Tuple) []api.Cell {
	t.Helper()
	l, e := New(places)
	if e != api.OK {
		t.Fatal(places, e)
	}
	for i, k := range keys {
		if l, e = Put(l, k, i+1); e != api.OK {
			t.Fatalf("%d, %+v: %d", places, k, e)
		}
	}
	return l
}

// hasKeys fails unless a table has these keys of all, with these numbers.
func hasKeys(t *testing.T, l []api.Cell, all []api.Tuple, want map[api.Tuple]int) {
	t.Helper()
	if !Right(l) || Len(l) != len(want) {
		t.Fatalf("%v: %t, %d instead of %d", l, Right(l), Len(l), len(want))
	}
	for _, k := range all {
		n, ok := want[k]
		if x, is := Get(l, k); is != ok || x != n {
			t.Fatalf("%v, %+v: %d, %t instead of %d, %t", l, k, x, is, n, ok)
		}
	}
}

// puts asks for a Put and fails unless it answers this.
func puts(t *testing.T, l []api.Cell, k api.Tuple, n int, want []api.Cell, e api.Errno) {
	t.Helper()
	before := slices.Clone(l)
	x, is := Put(l, k, n)
	if is != e || !slices.Equal(x, want) {
		t.Errorf("%v, %+v, %d: %v, %d instead of %v, %d", l, k, n, x, is, want, e)
	}
	apart(t, l, before, x)
}

// dels asks for a Del and fails unless it answers this.
func dels(t *testing.T, l []api.Cell, k api.Tuple, want []api.Cell, e api.Errno) {
	t.Helper()
	before := slices.Clone(l)
	x, is := Del(l, k)
	if is != e || !slices.Equal(x, want) {
		t.Errorf("%v, %+v: %v, %d instead of %v, %d", l, k, x, is, want, e)
	}
	apart(t, l, before, x)
}

// apart fails unless a table that was handed in is as it was, and shares nothing with what was answered.
func apart(t *testing.T, l, before, answer []api.Cell) {
	t.Helper()
	if !slices.Equal(l, before) {
		t.Fatalf("%v: was %v", l, before)
	}
	for i := range answer {
		answer[i].Num++
		answer[i].Used = !answer[i].Used
	}
	if !slices.Equal(l, before) {
		t.Fatalf("%v: is shared", l)
	}
}

// wrongTables are tables that aren't right, each by one thing; in most of them stands the key k, at its home.
func wrongTables(k api.Tuple) map[string][]api.Cell {
	m := map[string][]api.Cell{"nil": nil, "of none": {}, "of one": {{}}, "of one that is there": {cell(k, 1)}}
	for _, places := range []int{3, 5, 6, 7, 9, 12, 24, 1000, 1023, 1025, 1536, 2048, 4096} {
		l := make([]api.Cell, places)
		l[homeOf(k, places)] = cell(k, 1)
		m[fmt.Sprint("of ", places)] = l
		m[fmt.Sprint("empty, of ", places)] = make([]api.Cell, places)
	}
	home := homeOf(k, 8)
	with := func(name string, places ...api.Cell) {
		l := make([]api.Cell, 8)
		for i, c := range places {
			l[(home+i)%8] = c
		}
		m[name] = l
	}
	other := func(from, n int) api.Tuple {
		for {
			if x := keyAt(8, (home+from)%8, n); x != k {
				return x
			}
			n++
		}
	}
	with("a key in an empty place", cell(k, 1), api.Cell{Key: other(1, 0)})
	with("a number in an empty place", cell(k, 1), api.Cell{Num: 1})
	with("a number below 0 in an empty place", cell(k, 1), api.Cell{}, api.Cell{Num: -1})
	with("the key in an empty place", api.Cell{Key: k})
	with("a key behind its home", cell(k, 1), api.Cell{}, cell(other(1, 0), 2))
	with("a key ahead of its home", cell(k, 1), cell(other(2, 0), 2))
	with("the key behind its home", api.Cell{}, cell(k, 1))
	with("a key twice", cell(k, 1), cell(k, 2))
	with("a key twice, alike", cell(k, 1), cell(k, 1))
	with("a key twice, apart", cell(k, 1), cell(other(0, 0), 2), cell(other(0, 1), 3), cell(other(0, 0), 4))
	with("a key that isn't reached", cell(k, 1), api.Cell{}, cell(other(0, 0), 2))
	full := make([]api.Cell, 8)
	for i := range full {
		full[(home+i)%8] = cell(other(i, 0), i)
	}
	full[home] = cell(k, 1)
	m["full"] = full
	for i, bad := range []api.Tuple{{Proto: -1}, {Proto: 256}, {Sport: -1}, {Sport: 65536}, {Dport: -1}, {Dport: 65536}, {Proto: math.MinInt}, {Sport: math.MaxInt}, {Dport: math.MinInt}} {
		l := make([]api.Cell, 8)
		l[homeOf(bad, 8)] = cell(bad, 1)
		m[fmt.Sprint("a wrong key ", i)] = l
	}
	return m
}

// wrongKeys aren't right.
func wrongKeys() []api.Tuple {
	var list []api.Tuple
	for _, n := range []int{-1, -256, -65536, 65536, 65537, 1 << 32, math.MaxInt, math.MinInt} {
		list = append(list, api.Tuple{Proto: n}, api.Tuple{Sport: n}, api.Tuple{Dport: n}, api.Tuple{Proto: 6, Src: 1, Sport: n, Dst: 2, Dport: 80})
	}
	return append(list, api.Tuple{Proto: 256}, api.Tuple{Proto: 262, Src: 1, Sport: 5000, Dst: 2, Dport: 80}, api.Tuple{Proto: 65535})
}

// The chapter's example: of two keys of one home the second one stands behind the first; without the first one it stands in its place.
func TestExample(t *testing.T) {
	a, b := keyAt(8, 3, 0), keyAt(8, 3, 1)
	l := filled(t, 8, a, b)
	if !slices.Equal(l, []api.Cell{{}, {}, {}, cell(a, 1), cell(b, 2), {}, {}, {}}) {
		t.Fatal(l)
	}
	dels(t, l, a, []api.Cell{{}, {}, {}, cell(b, 2), {}, {}, {}, {}}, api.OK)
	dels(t, l, b, []api.Cell{{}, {}, {}, cell(a, 1), {}, {}, {}, {}}, api.OK)
}

// P10.1: a table has as many places as are asked for, and all are empty.
func TestNew(t *testing.T) {
	for _, places := range []int{2, 4, 8, 16, 32, 64, 128, 256, 512, 1024} {
		l, e := New(places)
		if e != api.OK || !slices.Equal(l, make([]api.Cell, places)) || !Right(l) || Len(l) != 0 {
			t.Errorf("%d: %v, %d", places, l, e)
		}
		l[0].Num = 7
		if m, _ := New(places); m[0].Num != 0 {
			t.Errorf("%d: two tables are one", places)
		}
	}
}

// P10.1: no other number of places may be.
func TestNewOfWrongPlaces(t *testing.T) {
	list := []int{2048, 4096, 1 << 16, 1 << 31, 1 << 32, 1<<32 + 2, 1<<32 + 8, 1 << 62, -2, -4, -1024, -1 << 32, math.MaxInt, math.MinInt, math.MinInt + 2}
	for n := -20; n <= 3000; n++ {
		if !slices.Contains([]int{2, 4, 8, 16, 32, 64, 128, 256, 512, 1024}, n) {
			list = append(list, n)
		}
	}
	for _, n := range list {
		if l, e := New(n); e != api.ErrArg || len(l) != 0 {
			t.Errorf("%d: %d places, %d", n, len(l), e)
		}
	}
}

// P10.1: which tables are right.
func TestRight(t *testing.T) {
	a, b, c, d := keyAt(4, 3, 0), keyAt(4, 3, 1), keyAt(4, 0, 0), keyAt(4, 1, 0)
	for i, l := range [][]api.Cell{
		{{}, {}}, {{}, {}, {}, {}},
		{{}, {}, {}, cell(a, 0)}, {{}, {}, {}, cell(a, -1)}, {{}, {}, {}, cell(a, math.MaxInt)}, {{}, {}, {}, cell(a, math.MinInt)},
		{cell(b, 5), {}, {}, cell(a, 5)}, {cell(a, 5), {}, {}, cell(b, 5)},
		{cell(b, 1), cell(c, 2), {}, cell(a, 3)}, {cell(c, 1), cell(b, 2), {}, cell(a, 3)}, {cell(c, 1), cell(a, 2), {}, cell(b, 3)},
		{cell(c, 1), cell(d, 2), {}, cell(a, 3)}, {cell(b, 1), cell(d, 2), {}, cell(a, 3)}, {{}, cell(d, 2), {}, {}},
	} {
		if !Right(l) {
			t.Errorf("%d: %v", i, l)
		}
	}
	for i, l := range [][]api.Cell{
		{cell(a, 1), {}, {}, {}}, {{}, cell(a, 1), {}, {}}, {{}, {}, cell(a, 1), {}}, {{}, cell(b, 1), {}, cell(a, 2)}, {cell(a, 1), {}, {}, cell(a, 1)},
		{cell(b, 1), {}, cell(d, 2), cell(a, 3)}, {cell(d, 1), {}, {}, cell(a, 2)}, {cell(c, 1), cell(d, 2), cell(b, 3), cell(a, 4)}, {{}, cell(c, 1), {}, {}},
	} {
		if Right(l) {
			t.Errorf("wrong %d: %v", i, l)
		}
	}
}

// P10.1: a key of each protocol and port at its edge may be in a table.
func TestRightKeys(t *testing.T) {
	for _, k := range []api.Tuple{
		{}, {Proto: 255}, {Sport: 65535}, {Dport: 65535}, {Src: math.MaxUint32}, {Dst: math.MaxUint32}, {Proto: 255, Src: math.MaxUint32, Sport: 65535, Dst: math.MaxUint32, Dport: 65535},
	} {
		for places := 2; places <= 1024; places *= 2 {
			l := filled(t, places, k)
			if n, ok := Get(l, k); !ok || n != 1 || !Right(l) || !l[homeOf(k, places)].Used {
				t.Errorf("%d, %+v: %d, %t", places, k, n, ok)
			}
		}
	}
}

// P10.1: which tables aren't right; nothing is got of them.
func TestWrongTables(t *testing.T) {
	k := keyAt(8, 6, 0)
	for name, l := range wrongTables(k) {
		before := slices.Clone(l)
		if Right(l) || slowRight(l) {
			t.Errorf("%s: %v is right", name, l)
		}
		for _, x := range []api.Tuple{k, {}, keyAt(8, 6, 1), {Proto: -1}} {
			if n, ok := Get(l, x); ok || n != 0 {
				t.Errorf("%s, %+v: %d, %t", name, x, n, ok)
			}
		}
		if !slices.Equal(l, before) {
			t.Errorf("%s is changed", name)
		}
	}
}

// P10.1: of all small tables, from these keys and from what may stand in an empty place, it is told whether they are right.
func TestRightOfAll(t *testing.T) {
	cells := []api.Cell{{}, {Num: 1}, {Key: keyAt(4, 0, 0)}, cell(api.Tuple{Proto: 256}, 0), cell(keyAt(4, 0, 0), 1), cell(keyAt(4, 0, 1), 1), cell(keyAt(4, 1, 0), 1), cell(keyAt(4, 2, 0), 1), cell(keyAt(4, 3, 0), 1), cell(keyAt(4, 3, 1), 1)}
	right := 0
	for n := range 10 * 10 * 10 * 10 {
		l := []api.Cell{cells[n%10], cells[n/10%10], cells[n/100%10], cells[n/1000]}
		want := slowRight(l)
		if want {
			right++
		}
		if Right(l) != want {
			t.Fatalf("%v: %t", l, !want)
		}
		used := 0
		for _, c := range l {
			if c.Used {
				used++
			}
		}
		if Len(l) != used {
			t.Fatalf("%v: %d", l, Len(l))
		}
	}
	if right < 50 {
		t.Fatal(right)
	}
}

// P10.1: a key's number, or none.
func TestGet(t *testing.T) {
	a, b, c, d := keyAt(4, 3, 0), keyAt(4, 3, 1), keyAt(4, 0, 0), keyAt(4, 3, 2)
	l := []api.Cell{cell(b, -7), cell(c, 0), {}, cell(a, math.MaxInt)}
	for _, x := range []struct {
		k    api.Tuple
		want int
		ok   bool
	}{
		{a, math.MaxInt, true}, {b, -7, true}, {c, 0, true}, {d, 0, false}, {keyAt(4, 2, 0), 0, false}, {keyAt(4, 1, 0), 0, false}, {api.Tuple{}, 0, false},
	} {
		if n, ok := Get(l, x.k); n != x.want || ok != x.ok {
			t.Errorf("%+v: %d, %t", x.k, n, ok)
		}
	}
}

// P10.1: the key of which nothing is told stands in no empty place.
func TestGetOfBareKey(t *testing.T) {
	for places := 2; places <= 1024; places *= 2 {
		l := filled(t, places)
		if n, ok := Get(l, api.Tuple{}); ok || n != 0 {
			t.Errorf("%d: %d, %t", places, n, ok)
		}
		dels(t, l, api.Tuple{}, l, api.ErrNone)
		with := slices.Clone(l)
		with[homeOf(api.Tuple{}, places)].Used = true
		puts(t, l, api.Tuple{}, 0, with, api.OK)
		if n, ok := Get(with, api.Tuple{}); !ok || n != 0 || Len(with) != 1 {
			t.Errorf("%d: %d, %t", places, n, ok)
		}
		puts(t, with, api.Tuple{}, 3, with, api.ErrTwice)
		dels(t, with, api.Tuple{}, l, api.OK)
	}
}

// P10.1, P10.2: a key that isn't right is nowhere, though its bytes are those of one that is there.
func TestWrongKeys(t *testing.T) {
	keys := []api.Tuple{{}, {Proto: 6, Src: 1, Dst: 2, Dport: 80}, {Proto: 6, Src: 1, Sport: 5000, Dst: 2, Dport: 80}, {Proto: 255}, {Sport: 1}, {Dport: 65535}, {Sport: 65535}}
	for _, l := range [][]api.Cell{filled(t, 2), filled(t, 8), filled(t, 8, keys[:4]...), filled(t, 8, keys...), filled(t, 1024, keys...)} {
		for _, k := range wrongKeys() {
			if n, ok := Get(l, k); ok || n != 0 {
				t.Errorf("%+v: %d, %t", k, n, ok)
			}
			// A table that is full tells first that the key is wrong.
			puts(t, l, k, 9, l, api.ErrArg)
			dels(t, l, k, l, api.ErrNone)
		}
	}
}

// P10.1: how many keys there are, of a table that isn't right too.
func TestLen(t *testing.T) {
	k := keyAt(8, 6, 0)
	for i, x := range []struct {
		l    []api.Cell
		want int
	}{
		{nil, 0}, {[]api.Cell{}, 0}, {[]api.Cell{{}}, 0}, {[]api.Cell{cell(k, 0)}, 1}, {[]api.Cell{cell(k, 0), cell(k, 0), cell(k, 0)}, 3},
		{[]api.Cell{{Key: k}, {Num: 1}, {Key: k, Num: 2}}, 0}, {[]api.Cell{cell(api.Tuple{Proto: -1}, 1), {}, cell(api.Tuple{}, 0), {}}, 2},
		{slices.Repeat([]api.Cell{cell(k, 1)}, 3000), 3000}, {filled(t, 8, k, keyAt(8, 6, 1), keyAt(8, 2, 0)), 3},
	} {
		if n := Len(x.l); n != x.want {
			t.Errorf("%d: %d instead of %d", i, n, x.want)
		}
	}
}

// P10.2: a key is put at the first place that is empty, from its home on, behind the last one too.
func TestPut(t *testing.T) {
	a, b, c, d := keyAt(4, 3, 0), keyAt(4, 3, 1), keyAt(4, 0, 0), keyAt(4, 2, 0)
	puts(t, make([]api.Cell, 4), a, 5, []api.Cell{{}, {}, {}, cell(a, 5)}, api.OK)
	puts(t, []api.Cell{{}, {}, {}, cell(a, 5)}, b, -6, []api.Cell{cell(b, -6), {}, {}, cell(a, 5)}, api.OK)
	puts(t, []api.Cell{cell(b, 6), {}, {}, cell(a, 5)}, c, 0, []api.Cell{cell(b, 6), cell(c, 0), {}, cell(a, 5)}, api.OK)
	puts(t, []api.Cell{cell(c, 6), {}, {}, cell(a, 5)}, b, math.MinInt, []api.Cell{cell(c, 6), cell(b, math.MinInt), {}, cell(a, 5)}, api.OK)
	puts(t, []api.Cell{cell(c, 6), {}, {}, cell(a, 5)}, d, math.MaxInt, []api.Cell{cell(c, 6), {}, cell(d, math.MaxInt), cell(a, 5)}, api.OK)
	x, y := keyAt(2, 1, 0), keyAt(2, 0, 0)
	puts(t, make([]api.Cell, 2), x, 1, []api.Cell{{}, cell(x, 1)}, api.OK)
	puts(t, make([]api.Cell, 2), y, 1, []api.Cell{cell(y, 1), {}}, api.OK)
}

// P10.2: a key that is there stays with its number, in a table that is full too.
func TestPutTwice(t *testing.T) {
	keys := []api.Tuple{keyAt(4, 3, 0), keyAt(4, 3, 1), keyAt(4, 3, 2)}
	for n := 1; n <= 3; n++ {
		l := filled(t, 4, keys[:n]...)
		for i, k := range keys[:n] {
			puts(t, l, k, i+1, l, api.ErrTwice)
			puts(t, l, k, 77, l, api.ErrTwice)
		}
	}
	k := keyAt(2, 1, 0)
	l := filled(t, 2, k)
	puts(t, l, k, 5, l, api.ErrTwice)
}

// P10.2: all places but one may have keys, of a table of any size.
func TestPutFull(t *testing.T) {
	for places := 2; places <= 1024; places *= 2 {
		var keys []api.Tuple
		for i := range places {
			keys = append(keys, api.Tuple{Proto: 6, Src: uint32(i), Sport: i})
		}
		last := keys[places-1]
		almost := filled(t, places, keys[:places-2]...)
		if _, e := Put(almost, last, 1); e != api.OK {
			t.Errorf("%d: %d", places, e)
		}
		l := filled(t, places, keys[:places-1]...)
		puts(t, l, last, 1, l, api.ErrFull)
		puts(t, l, keys[0], 1, l, api.ErrTwice)
		puts(t, l, api.Tuple{Proto: -1}, 1, l, api.ErrArg)
	}
}

// P10.2: a table that isn't right stays as it is, and that it isn't right is told first.
func TestChangeWrongTables(t *testing.T) {
	k := keyAt(8, 6, 0)
	for name, l := range wrongTables(k) {
		for _, x := range []api.Tuple{k, keyAt(8, 6, 1), keyAt(8, 7, 0), {}, {Proto: -1}} {
			t.Run(name, func(t *testing.T) {
				puts(t, l, x, 3, l, api.ErrArg)
				dels(t, l, x, l, api.ErrArg)
			})
		}
	}
}

// P10.2: a key that isn't there isn't taken out.
func TestDelNone(t *testing.T) {
	a, b, c := keyAt(4, 3, 0), keyAt(4, 3, 1), keyAt(4, 0, 0)
	dels(t, make([]api.Cell, 2), a, make([]api.Cell, 2), api.ErrNone)
	l := filled(t, 4, a, c)
	for _, k := range []api.Tuple{b, keyAt(4, 0, 1), keyAt(4, 1, 0), keyAt(4, 2, 0), {}} {
		dels(t, l, k, l, api.ErrNone)
	}
	l = filled(t, 4, a, b, c)
	dels(t, l, keyAt(4, 3, 2), l, api.ErrNone)
}

// P10.2: what follows moves up, as far as its home lets it, and no further than to the next empty place.
func TestDel(t *testing.T) {
	a, b, c, d, e := keyAt(8, 6, 0), keyAt(8, 6, 1), keyAt(8, 7, 0), keyAt(8, 6, 2), keyAt(8, 1, 0)
	f := keyAt(8, 3, 0)
	l := filled(t, 8, a, b, c, d, f, e)
	if !slices.Equal(l, []api.Cell{cell(c, 3), cell(d, 4), cell(e, 6), cell(f, 5), {}, {}, cell(a, 1), cell(b, 2)}) {
		t.Fatal(l)
	}
	dels(t, l, a, []api.Cell{cell(d, 4), cell(e, 6), {}, cell(f, 5), {}, {}, cell(b, 2), cell(c, 3)}, api.OK)
	dels(t, l, b, []api.Cell{cell(d, 4), cell(e, 6), {}, cell(f, 5), {}, {}, cell(a, 1), cell(c, 3)}, api.OK)
	dels(t, l, c, []api.Cell{cell(d, 4), cell(e, 6), {}, cell(f, 5), {}, {}, cell(a, 1), cell(b, 2)}, api.OK)
	dels(t, l, d, []api.Cell{cell(c, 3), cell(e, 6), {}, cell(f, 5), {}, {}, cell(a, 1), cell(b, 2)}, api.OK)
	dels(t, l, e, []api.Cell{cell(c, 3), cell(d, 4), {}, cell(f, 5), {}, {}, cell(a, 1), cell(b, 2)}, api.OK)
	dels(t, l, f, []api.Cell{cell(c, 3), cell(d, 4), cell(e, 6), {}, {}, {}, cell(a, 1), cell(b, 2)}, api.OK)
	x, y := keyAt(2, 1, 0), keyAt(2, 0, 0)
	dels(t, []api.Cell{{}, cell(x, 1)}, x, make([]api.Cell, 2), api.OK)
	dels(t, []api.Cell{cell(y, 1), {}}, y, make([]api.Cell, 2), api.OK)
}

// P10.2: what is handed in isn't kept, and its spare room isn't touched.
func TestSpareRoom(t *testing.T) {
	a, b := keyAt(4, 3, 0), keyAt(4, 3, 1)
	whole := slices.Repeat([]api.Cell{cell(b, 99)}, 8)
	copy(whole, []api.Cell{{}, {}, {}, cell(a, 1)})
	before := slices.Clone(whole)
	for _, k := range []api.Tuple{a, b, {Proto: -1}} {
		for _, n := range []int{0, 3, 4} {
			x, _ := Put(whole[:n], k, 5)
			y, _ := Del(whole[:n], k)
			Get(whole[:n], k)
			for _, l := range [][]api.Cell{x, y} {
				clear(l[:cap(l)])
			}
			if !slices.Equal(whole, before) {
				t.Fatalf("%+v, %d: %v", k, n, whole)
			}
		}
	}
}

// someKeys are keys of which many have one home.
func someKeys(places int) []api.Tuple {
	var list []api.Tuple
	for _, home := range []int{0, 1, places / 2, places - 2, places - 1} {
		list = append(list, keysAt(places, home, places/2)...)
	}
	for i := range places {
		list = append(list, api.Tuple{Proto: 17, Src: uint32(i) << 20, Sport: i, Dst: math.MaxUint32, Dport: 65535 - i})
	}
	return list
}

// P10.3: behind any puts and deletes a table has what was put and not deleted, each at the place that the chapter tells.
func TestAnyChanges(t *testing.T) {
	for _, places := range []int{2, 4, 8, 16, 64} {
		chance := rand.New(rand.NewSource(int64(103 + places)))
		keys := someKeys(places)
		l := filled(t, places)
		want := map[api.Tuple]int{}
		most := 0
		for step := range 3000 {
			k := keys[chance.Intn(len(keys))]
			// Now there are more puts, and now more deletes.
			if chance.Intn(100) < 30+40*(step/150%2) {
				l = putBoth(t, l, want, k, chance.Intn(2000)-1000)
			} else {
				if len(want) > 0 && chance.Intn(4) > 0 {
					k = l[usedFrom(l, chance.Intn(places))].Key
				}
				l = delBoth(t, l, want, k)
			}
			most = max(most, len(want))
			hasKeys(t, l, keys, want)
		}
		if most != places-1 {
			t.Errorf("%d: at most %d", places, most)
		}
	}
}

// usedFrom is the first place from one on that has a key.
func usedFrom(l []api.Cell, from int) int {
	for !l[from].Used {
		from = (from + 1) % len(l)
	}
	return from
}

// putBoth puts into a table and into a map of what it has to have.
func putBoth(t *testing.T, l []api.Cell, want map[api.Tuple]int, k api.Tuple, n int) []api.Cell {
	t.Helper()
	x := slices.Clone(l)
	e := api.OK
	if _, ok := want[k]; ok {
		e = api.ErrTwice
	} else if len(want) == len(l)-1 {
		e = api.ErrFull
	} else {
		x[slowPlace(l, k)] = cell(k, n)
		want[k] = n
	}
	puts(t, l, k, n, x, e)
	l, _ = Put(l, k, n)
	return l
}

// delBoth takes out of both.
func delBoth(t *testing.T, l []api.Cell, want map[api.Tuple]int, k api.Tuple) []api.Cell {
	t.Helper()
	x := l
	e := api.ErrNone
	if _, ok := want[k]; ok {
		x, e = slowDel(l, k), api.OK
		delete(want, k)
	}
	dels(t, l, k, x, e)
	l, _ = Del(l, k)
	return l
}

// P10.3: all tables that come of puts and deletes of a few keys, each once, are as they have to be.
func TestAllChanges(t *testing.T) {
	keys := []api.Tuple{keyAt(4, 3, 0), keyAt(4, 3, 1), keyAt(4, 2, 0), keyAt(4, 0, 0), keyAt(4, 0, 1), keyAt(4, 1, 0)}
	seen := map[[4]api.Cell]map[api.Tuple]int{}
	var work [][4]api.Cell
	meet := func(l []api.Cell, want map[api.Tuple]int) {
		x := [4]api.Cell(l)
		if seen[x] == nil {
			seen[x] = want
			work = append(work, x)
			hasKeys(t, l, keys, want)
		}
	}
	meet(filled(t, 4), map[api.Tuple]int{})
	for len(work) > 0 {
		x := work[0]
		work = work[1:]
		for i, k := range keys {
			for _, change := range []func(want map[api.Tuple]int) []api.Cell{
				func(want map[api.Tuple]int) []api.Cell { return putBoth(t, x[:], want, k, i) },
				func(want map[api.Tuple]int) []api.Cell { return delBoth(t, x[:], want, k) },
			} {
				want := map[api.Tuple]int{}
				for k, n := range seen[x] {
					want[k] = n
				}
				meet(change(want), want)
			}
		}
	}
	if len(seen) < 50 {
		t.Fatal(len(seen))
	}
}

// P10.3: the greatest table, full, and of one home alone, loses its keys one by one from its middle.
func TestGreatest(t *testing.T) {
	for name, keys := range map[string][]api.Tuple{"one home": keysAt(1024, 1000, 1023), "any home": someKeys(1024)[2560 : 2560+1023]} {
		l := filled(t, 1024, keys...)
		puts(t, l, api.Tuple{Proto: 99}, 0, l, api.ErrFull)
		want := map[api.Tuple]int{}
		for i, k := range keys {
			want[k] = i + 1
		}
		for i := 0; len(want) > 0; i++ {
			k := keys[(i*500+7)%1023]
			x := slowDel(l, k)
			y, e := Del(l, k)
			if e != api.OK || !slices.Equal(x, y) {
				t.Fatalf("%s, %d: %d", name, i, e)
			}
			delete(want, k)
			l = y
			if i%341 == 0 {
				hasKeys(t, l, keys[:50], want)
			}
		}
		if !slices.Equal(l, make([]api.Cell, 1024)) {
			t.Errorf("%s: something is left", name)
		}
	}
}
