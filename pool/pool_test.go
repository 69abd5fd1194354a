package pool

import (
	"math"
	"math/rand"
	"slices"
	"testing"
)

// far are numbers around the edges of what may be, and far off.
var far = []int{math.MinInt, math.MinInt + 1, math.MinInt32, -65536, -65535, -3, -2, -1, 0, 1, 2, 3, 255, 256, 32768, 65533, 65534, 65535, 65536, 65537, math.MaxUint32, 1 << 32, 1<<32 + 7, math.MaxInt - 1, math.MaxInt}

// draws are drawn numbers, small ones and ones whose upper bits count.
var draws = []uint32{0, 1, 2, 3, 4, 5, 6, 7, 8, 11, 12, 255, 256, 65535, 65536, 65537, 1<<31 - 1, 1 << 31, 1<<31 + 1, 1<<32 - 3, 1<<32 - 2, 1<<32 - 1}

// slowRight is what Right has to answer.
func slowRight(lo, hi int) bool {
	return 1 <= lo && lo <= hi && hi <= 65535
}

// slowFree are the free ports of a span, rising.
func slowFree(lo, hi int, taken []int) []int {
	if !slowRight(lo, hi) {
		return nil
	}
	there := map[int]bool{}
	for _, port := range taken {
		there[port] = true
	}
	var list []int
	for port := lo; port <= hi; port++ {
		if !there[port] {
			list = append(list, port)
		}
	}
	return list
}

// slowChoose is what Choose has to answer, with what is free.
func slowChoose(free []int, wish int, draw uint32) (int, bool) {
	if slices.Contains(free, wish) {
		return wish, true
	}
	var same []int
	for _, port := range free {
		if (port%2 == 0) == (wish%2 == 0) {
			same = append(same, port)
		}
	}
	for _, list := range [][]int{same, free} {
		if len(list) > 0 {
			return list[int64(draw)%int64(len(list))], true
		}
	}
	return 0, false
}

// chooses fails if the port isn't this one.
func chooses(t *testing.T, lo, hi int, taken []int, wish int, draw uint32, port int, ok bool) {
	t.Helper()
	if p, there := Choose(lo, hi, taken, wish, draw); p != port || there != ok {
		t.Errorf("Choose(%d, %d, %v, %d, %d) = %d, %v; want %d, %v", lo, hi, taken, wish, draw, p, there, port, ok)
	}
}

// frees fails if so many aren't free.
func frees(t *testing.T, lo, hi int, taken []int, want int) {
	t.Helper()
	if n := Free(lo, hi, taken); n != want {
		t.Errorf("Free(%d, %d, %v) = %d, want %d", lo, hi, taken, n, want)
	}
}

// asSlow fails if a span's answers aren't as they have to be, of all these wishes and draws.
func asSlow(t *testing.T, lo, hi int, taken, wishes []int, draws []uint32) {
	t.Helper()
	free := slowFree(lo, hi, taken)
	frees(t, lo, hi, taken, len(free))
	for _, wish := range wishes {
		for _, draw := range draws {
			port, ok := slowChoose(free, wish, draw)
			chooses(t, lo, hi, taken, wish, draw, port, ok)
		}
	}
}

// numbers are those from lo to hi, of step apart.
func numbers(lo, hi, step int) []int {
	var list []int
	for n := lo; n <= hi; n += step {
		list = append(list, n)
	}
	return list
}

// The chapter's example: of 10 to 15, 12 taken, 12 wished: 10 or 14, by the draw's parity.
func TestExample(t *testing.T) {
	for _, draw := range draws {
		chooses(t, 10, 15, []int{12}, 12, draw, 10+4*int(draw%2), true)
	}
	frees(t, 10, 15, []int{12}, 5)
}

// P16.1: which spans are right.
func TestRight(t *testing.T) {
	for _, lo := range far {
		for _, hi := range far {
			if Right(lo, hi) != slowRight(lo, hi) {
				t.Errorf("Right(%d, %d) = %v", lo, hi, Right(lo, hi))
			}
		}
	}
	for lo := -3; lo < 9; lo++ {
		for hi := -3; hi < 9; hi++ {
			if Right(lo, hi) != slowRight(lo, hi) {
				t.Errorf("Right(%d, %d) = %v", lo, hi, Right(lo, hi))
			}
		}
	}
	if !Right(1, 1) || !Right(1, 65535) || !Right(65535, 65535) || Right(0, 1) || Right(1, 65536) || Right(2, 1) {
		t.Error("an edge")
	}
}

// P16.1: how many of a span are free; what is taken may stand there more than once, in any order, and beside the span.
func TestFree(t *testing.T) {
	frees(t, 10, 15, nil, 6)
	frees(t, 10, 15, []int{}, 6)
	frees(t, 10, 15, []int{10}, 5)
	frees(t, 10, 15, []int{15}, 5)
	frees(t, 10, 15, []int{15, 12, 10}, 3)
	frees(t, 10, 15, []int{9, 16}, 6)
	frees(t, 10, 15, []int{12, 12, 12}, 5)
	frees(t, 10, 15, []int{12, 10, 12, 10, 9, 12}, 4)
	frees(t, 10, 15, []int{15, 14, 13, 12, 11, 10, 9, 10}, 0)
	frees(t, 10, 10, nil, 1)
	frees(t, 10, 10, []int{10, 10}, 0)
	frees(t, 10, 15, far, 6)
	frees(t, 1, 65535, nil, 65535)
	frees(t, 1, 65535, far, 65535-9)
	frees(t, 1, 65535, numbers(1, 65535, 1), 0)
	frees(t, 1, 65535, numbers(-5, 65540, 2), 32767)
	frees(t, 65535, 65535, []int{65534, 65536, -1, 131071}, 1)
	frees(t, 65535, 65535, []int{65535}, 0)
}

// P16.1, P16.2: of a span that isn't right nothing is free, and nothing chosen, also not the wished one.
func TestSpanWrong(t *testing.T) {
	for _, span := range [][2]int{{0, 5}, {0, 0}, {-1, 5}, {5, 4}, {2, 1}, {6, 4}, {1, 65536}, {65535, 65536}, {65536, 65536}, {5, 0}, {5, -5}, {-7, -5}, {65535, 1}, {math.MinInt, math.MaxInt}, {math.MinInt, 5}, {5, math.MaxInt}, {math.MaxInt, math.MinInt}, {1, 1<<32 + 7}, {1<<32 + 1, 1<<32 + 7}} {
		for _, taken := range [][]int{nil, {}, {3}, {5, 5}, far} {
			frees(t, span[0], span[1], taken, 0)
			for _, wish := range append([]int{4, 5, 6, span[0], span[1]}, far...) {
				for _, draw := range draws {
					chooses(t, span[0], span[1], taken, wish, draw, 0, false)
				}
			}
		}
	}
}

// P16.2: the wished port is chosen if it is free, whatever is drawn.
func TestWish(t *testing.T) {
	for _, draw := range draws {
		for wish := 10; wish <= 15; wish++ {
			chooses(t, 10, 15, nil, wish, draw, wish, true)
			chooses(t, 10, 15, []int{9, 16, wish - 1, wish + 1, wish - 2, wish + 2}, wish, draw, wish, true)
		}
		for _, wish := range []int{1, 2, 32768, 65534, 65535} {
			chooses(t, 1, 65535, nil, wish, draw, wish, true)
		}
		chooses(t, 7, 7, nil, 7, draw, 7, true)
	}
}

// P16.2: a wish that isn't free, or beside the span, has one of its parity, the one at the draw's place.
func TestParity(t *testing.T) {
	for _, draw := range draws {
		place := int(draw % 3)
		for _, wish := range []int{9, 17, 99, 1, 65535, -1, -3, math.MaxInt, math.MinInt + 1} {
			chooses(t, 10, 15, nil, wish, draw, 11+2*place, true)
		}
		for _, wish := range []int{8, 16, 100, 0, 65536, -2, -4, math.MaxInt - 1, math.MinInt} {
			chooses(t, 10, 15, nil, wish, draw, 10+2*place, true)
		}
		chooses(t, 10, 17, []int{13, 10}, 13, draw, []int{11, 15, 17}[place], true)
		chooses(t, 10, 17, []int{16, 17, 15}, 16, draw, 10+2*place, true)
	}
}

// P16.2: where none of the parity is free, all that are free count.
func TestOtherParity(t *testing.T) {
	for _, draw := range draws {
		chooses(t, 10, 15, []int{10, 12, 14}, 12, draw, 11+2*int(draw%3), true)
		chooses(t, 10, 15, []int{10, 12, 14}, 80, draw, 11+2*int(draw%3), true)
		chooses(t, 10, 15, []int{11, 13, 15, 12}, -5, draw, []int{10, 14}[draw%2], true)
		chooses(t, 10, 10, nil, 11, draw, 10, true)
		chooses(t, 11, 11, nil, 10, draw, 11, true)
		chooses(t, 65535, 65535, nil, 2, draw, 65535, true)
		chooses(t, 1, 1, nil, -2, draw, 1, true)
	}
}

// P16.2: none is free.
func TestNone(t *testing.T) {
	for _, wish := range append([]int{10, 11, 12, 13, 14, 15}, far...) {
		for _, draw := range draws {
			chooses(t, 10, 15, []int{10, 11, 12, 13, 14, 15}, wish, draw, 0, false)
			chooses(t, 10, 15, []int{15, 15, 16, 14, 13, 9, 12, 11, 10, 10}, wish, draw, 0, false)
			chooses(t, 10, 10, []int{10}, wish, draw, 0, false)
		}
	}
	full := numbers(1, 65535, 1)
	for _, wish := range far {
		chooses(t, 1, 65535, full, wish, 7, 0, false)
	}
}

// P16.1, P16.2: all small spans, with all that may be taken of them, and all wishes near them.
func TestSmallSpans(t *testing.T) {
	wishes := append(numbers(-4, 14, 1), math.MinInt, math.MaxInt)
	few := slices.Concat(draws[:7], draws[len(draws)-2:])
	for lo := -1; lo <= 4; lo++ {
		for hi := lo - 1; hi <= lo+6; hi++ {
			for set := range 1 << 7 {
				var taken []int
				for i := range 7 {
					if set>>i&1 == 1 {
						taken = append(taken, lo+i)
					}
				}
				asSlow(t, lo, hi, taken, wishes, few)
			}
		}
	}
}

// P16.1, P16.2: spans at random, with what is taken in any order, more than once, and beside them.
func TestRandom(t *testing.T) {
	chance := rand.New(rand.NewSource(16))
	for range 3000 {
		lo := 1 + chance.Intn(100)
		if chance.Intn(3) == 0 {
			lo = 65400 + chance.Intn(136)
		}
		hi := min(65535, lo+chance.Intn(60))
		var taken, wishes []int
		for range chance.Intn(150) {
			taken = append(taken, lo-5+chance.Intn(70))
		}
		for range 12 {
			wishes = append(wishes, lo-5+chance.Intn(70))
		}
		asSlow(t, lo, hi, taken, wishes, []uint32{0, uint32(chance.Intn(60)), chance.Uint32(), chance.Uint32()})
	}
}

// P16.2: the whole span, with few and with nearly all taken.
func TestWholeSpan(t *testing.T) {
	chance := rand.New(rand.NewSource(161))
	for _, count := range []int{0, 1, 2, 50, 32768, 65000, 65533, 65534} {
		taken := chance.Perm(65535)[:count]
		for i := range taken {
			taken[i]++
		}
		wishes := []int{-1, 0, 1, 2, 65534, 65535, 65536, 1 + chance.Intn(65535)}
		if count > 0 {
			wishes = append(wishes, taken[0], taken[count-1])
		}
		asSlow(t, 1, 65535, taken, wishes, []uint32{0, 32767, 1<<32 - 1, chance.Uint32()})
	}
}

// P16.3: what is chosen is in the span and not taken, and one is chosen just where one is free.
func TestChosen(t *testing.T) {
	chance := rand.New(rand.NewSource(163))
	for range 20000 {
		lo := 1 + chance.Intn(40)
		hi := lo + chance.Intn(12)
		var taken []int
		for range chance.Intn(30) {
			taken = append(taken, lo-2+chance.Intn(16))
		}
		port, ok := Choose(lo, hi, taken, lo-2+chance.Intn(16), chance.Uint32())
		if ok != (Free(lo, hi, taken) > 0) {
			t.Fatalf("%d to %d, %v taken: %v", lo, hi, taken, ok)
		}
		if ok && (port < lo || port > hi || slices.Contains(taken, port)) {
			t.Fatalf("%d to %d, %v taken: %d", lo, hi, taken, port)
		}
	}
}

// P16.3: some draw chooses each free port of the wished parity, and none any other while there are such.
func TestEachDrawn(t *testing.T) {
	for set := range 1 << 10 {
		taken := []int{30}
		for i := range 10 {
			if set>>i&1 == 1 {
				taken = append(taken, 20+i)
			}
		}
		var even []int
		for _, port := range slowFree(20, 30, taken) {
			if port%2 == 0 {
				even = append(even, port)
			}
		}
		if len(even) == 0 {
			continue
		}
		var drawn []int
		for draw := range len(even) {
			port, _ := Choose(20, 30, taken, 30, uint32(draw))
			drawn = append(drawn, port)
		}
		if !slices.Equal(drawn, even) {
			t.Fatalf("%v taken: %v, want %v", taken, drawn, even)
		}
	}
}

// P16.2: the order of what is taken doesn't matter.
func TestOrder(t *testing.T) {
	chance := rand.New(rand.NewSource(164))
	taken := []int{10, 12, 12, 13, 17, 18, 25, 9}
	for range 300 {
		chance.Shuffle(len(taken), func(i, j int) { taken[i], taken[j] = taken[j], taken[i] })
		asSlow(t, 10, 20, taken, numbers(8, 22, 1), draws)
	}
}

// What is handed in is neither changed nor kept, its spare room neither, and the same question has the same answer.
func TestOnceMore(t *testing.T) {
	room := []int{15, 12, 9, 12, 18, 10, 77, 11, 13, 14}
	before := slices.Clone(room)
	for range 3 {
		asSlow(t, 10, 18, room[:6], numbers(8, 20, 1), draws)
		if !slices.Equal(room, before) {
			t.Fatalf("%v became %v", before, room)
		}
	}
	chooses(t, 10, 18, room[:6], 12, 1, 16, true)
	room[1], room[3] = 14, 14
	chooses(t, 10, 18, room[:6], 12, 1, 12, true)
	chooses(t, 10, 18, room[:6], 14, 1, 16, true)
}
