package seq

import (
	"math"
	"testing"
)

const (
	top  = 1<<32 - 1
	half = 1 << 31
)

// edges are the numbers near which a sum, a difference or a sign turns over.
func edges() []uint32 {
	return []uint32{
		0, 1, 2, 5, 1000, 1<<16 - 1, 1 << 16,
		half - 2, half - 1, half, half + 1, half + 2,
		0x89abcdef, top - 1000, top - 2, top - 1, top,
	}
}

// steps are distances that may be between two numbers, their ends among them.
func steps() []int {
	return []int{
		-half, -half + 1, -half + 2, -1 << 16, -1000, -2, -1,
		0, 1, 2, 1000, 1 << 16, half - 3, half - 2, half - 1,
	}
}

// widelyApart works a distance out by numbers that don't go round.
func widelyApart(a, b uint32) int {
	d := (int64(b) - int64(a)) % (1 << 32)
	if d < -half {
		d += 1 << 32
	}
	if d >= half {
		d -= 1 << 32
	}
	return int(d)
}

// P1.1
func TestDist(t *testing.T) {
	for _, c := range []struct {
		a, b uint32
		want int
	}{
		{0, 0, 0},
		{top, top, 0},
		{3, 5, 2},
		{5, 3, -2},
		{top, 1, 2},
		{1, top, -2},
		{top, 0, 1},
		{0, top, -1},
		{0, half - 1, half - 1},
		{0, half, -half},
		{half, 0, -half},
		{0, half + 1, -half + 1},
		{half - 1, 0, -half + 1},
		{half, top, half - 1},
		{top, half, -half + 1},
		{top, half - 1, -half},
		{top, half - 2, half - 1},
		{7, 7 + half, -half},
		{top - 2, half - 3, -half},
		{top - 2, half - 4, half - 1},
	} {
		if d := Dist(c.a, c.b); d != c.want {
			t.Errorf("Dist(%d, %d) is %d, not %d", c.a, c.b, d, c.want)
		}
	}
}

// P1.1
func TestDistOfEdges(t *testing.T) {
	for _, a := range edges() {
		for _, b := range edges() {
			d := Dist(a, b)
			if want := widelyApart(a, b); d != want {
				t.Errorf("Dist(%d, %d) is %d, not %d", a, b, d, want)
			}
			if d < -half || d >= half {
				t.Errorf("Dist(%d, %d) is %d, out of bounds", a, b, d)
			}
		}
	}
}

// P1.1
func TestAhead(t *testing.T) {
	for _, c := range []struct {
		a, b uint32
		want bool
	}{
		{5, 3, true},
		{3, 5, false},
		{4, 4, false},
		{0, 0, false},
		{top, top, false},
		{1, top, true},
		{top, 1, false},
		{0, top, true},
		{top, 0, false},
		{half - 1, 0, true},
		{0, half - 1, false},
		{half, 0, false},
		{0, half, false},
		{half + 1, 0, false},
		{0, half + 1, true},
		{half - 2, top, true},
		{half - 1, top, false},
		{top, half - 1, false},
	} {
		if got := Ahead(c.a, c.b); got != c.want {
			t.Errorf("Ahead(%d, %d) is %v", c.a, c.b, got)
		}
	}
}

// P1.1
func TestAheadOfEdges(t *testing.T) {
	for _, a := range edges() {
		for _, b := range edges() {
			if got := Ahead(a, b); got != (widelyApart(b, a) > 0) {
				t.Errorf("Ahead(%d, %d) is %v", a, b, got)
			}
			if Ahead(a, b) && Ahead(b, a) {
				t.Errorf("%d and %d are each ahead of the other one", a, b)
			}
		}
	}
}

// P1.1
func TestLater(t *testing.T) {
	for _, c := range []struct{ a, b, want uint32 }{
		{3, 4, 4},
		{4, 3, 4},
		{9, 9, 9},
		{1, top, 1},
		{top, 1, 1},
		{0, top, 0},
		{top, 0, 0},
		{0, half - 1, half - 1},
		{half - 1, 0, half - 1},
		{0, half + 1, 0},
		{half + 1, 0, 0},
		// None is ahead: the first one stands.
		{0, half, 0},
		{half, 0, half},
		{top, half - 1, top},
		{half - 1, top, half - 1},
	} {
		if got := Later(c.a, c.b); got != c.want {
			t.Errorf("Later(%d, %d) is %d, not %d", c.a, c.b, got, c.want)
		}
	}
}

// P1.1
func TestIn(t *testing.T) {
	for _, c := range []struct {
		x, from, to uint32
		want        bool
	}{
		// The chapter's own.
		{5, top - 1, 10, true},
		{11, top - 1, 10, false},
		// Both ends belong to it.
		{3, 3, 8, true},
		{8, 3, 8, true},
		{6, 3, 8, true},
		{2, 3, 8, false},
		{9, 3, 8, false},
		{top, 3, 8, false},
		{top - 1, top - 1, 10, true},
		{top, top - 1, 10, true},
		{0, top - 1, 10, true},
		{10, top - 1, 10, true},
		{top - 2, top - 1, 10, false},
		{half, top - 1, 10, false},
		// One place alone.
		{7, 7, 7, true},
		{6, 7, 7, false},
		{8, 7, 7, false},
		{top, 0, 0, false},
		{0, 0, 0, true},
		{0, top, top, false},
		// A way that ends behind its beginning goes all round.
		{5, 6, 5, true},
		{6, 6, 5, true},
		{half, 6, 5, true},
		{5, 6, 4, false},
		{top, 6, 4, true},
		{0, 6, 4, true},
		{4, 6, 4, true},
		// Ways of half the round and more.
		{half, 0, half, true},
		{half + 1, 0, half, false},
		{0, half, 0, true},
		{top, half, 0, true},
		{1, half, 0, false},
		{half - 1, half, 0, false},
		{half + 2, 0, half + 2, true},
		{half + 3, 0, half + 2, false},
		{half, 0, top, true},
		{top, 0, top, true},
	} {
		if got := In(c.x, c.from, c.to); got != c.want {
			t.Errorf("In(%d, %d, %d) is %v", c.x, c.from, c.to, got)
		}
	}
}

// P1.1: every way of a few numbers, gone on foot.
func TestInOnFoot(t *testing.T) {
	for _, from := range []uint32{0, 1, 500, half - 3, half, top - 4, top} {
		for length := uint32(0); length < 9; length++ {
			to := from + length
			met := map[uint32]bool{}
			for x := from; ; x++ {
				met[x] = true
				if x == to {
					break
				}
			}
			for near := -12; near <= 12; near++ {
				x := from + uint32(near)
				if got := In(x, from, to); got != met[x] {
					t.Errorf("In(%d, %d, %d) is %v", x, from, to, got)
				}
			}
		}
	}
}

// P1.1: what isn't on the way up from one to another is on the way between, from behind the end to before the beginning.
func TestInOrOut(t *testing.T) {
	for _, from := range edges() {
		for _, to := range edges() {
			if to+1 == from {
				continue
			}
			for _, x := range edges() {
				if In(x, from, to) == In(x, to+1, from-1) {
					t.Errorf("%d is both in and out of %d to %d, or neither", x, from, to)
				}
			}
		}
	}
}

// P1.1
func TestStep(t *testing.T) {
	for _, c := range []struct {
		a    uint32
		n    int
		want uint32
	}{
		{0, 0, 0},
		{top, 0, top},
		{5, 2, 7},
		{5, -2, 3},
		{top, 2, 1},
		{1, -2, top},
		{top, 1, 0},
		{0, -1, top},
		{0, half - 1, half - 1},
		{0, -half, half},
		{half, -half, 0},
		{half, half - 1, top},
		{top, half - 1, half - 2},
		{top, -half, half - 1},
		{0, half, half},
		{3, top, 2},
		{3, -top, 4},
	} {
		if got := Step(c.a, c.n); got != c.want {
			t.Errorf("Step(%d, %d) is %d, not %d", c.a, c.n, got, c.want)
		}
	}
}

// P1.1: steps that are longer than the whole round, which no distance is, count modulo 2^32.
func TestStepBeyondRound(t *testing.T) {
	for _, c := range []struct {
		a    uint32
		n    int64
		want uint32
	}{
		{9, 1 << 32, 9},
		{9, -1 << 32, 9},
		{9, 1<<32 + 4, 13},
		{9, -1<<32 - 10, top},
		{top, 5<<32 + 1, 0},
		{9, 1<<40 + 3, 12},
		{9, -1<<40 - 3, 6},
		{9, math.MaxInt64, 8},
		{9, math.MinInt64, 9},
		{0, math.MinInt64 + 1, 1},
	} {
		if int64(int(c.n)) != c.n {
			continue
		}
		if got := Step(c.a, int(c.n)); got != c.want {
			t.Errorf("Step(%d, %d) is %d, not %d", c.a, c.n, got, c.want)
		}
	}
}

// P1.2
func TestStepByDist(t *testing.T) {
	for _, a := range edges() {
		for _, b := range edges() {
			if got := Step(a, Dist(a, b)); got != b {
				t.Errorf("from %d by the distance to %d one comes to %d", a, b, got)
			}
		}
	}
}

// P1.2: and the other way about, for every distance that may be.
func TestDistOfStep(t *testing.T) {
	for _, a := range edges() {
		for _, n := range steps() {
			if got := Dist(a, Step(a, n)); got != n {
				t.Errorf("%d further on than %d is %d away", n, a, got)
			}
		}
	}
}

// P1.2
func TestInOrder(t *testing.T) {
	for _, a := range edges() {
		for _, n := range steps() {
			if n <= 0 {
				continue
			}
			b := Step(a, n)
			if !Ahead(b, a) || Ahead(a, b) {
				t.Errorf("%d and %d, %d further on, are not in order", a, b, n)
			}
			if Later(a, b) != b || Later(b, a) != b {
				t.Errorf("of %d and %d, %d further on, the wrong one is later", a, b, n)
			}
			if !In(a, a, b) || !In(b, a, b) || !In(a+1, a, b) || In(a-1, a, b) || In(b+1, a, b) {
				t.Errorf("the way from %d to %d, %d further on, is wrong", a, b, n)
			}
		}
	}
}

// P1.2: at 2^31 the order ends.
func TestNoOrderAtHalf(t *testing.T) {
	for _, a := range edges() {
		b := Step(a, half)
		if Ahead(a, b) || Ahead(b, a) {
			t.Errorf("%d and %d are in order", a, b)
		}
		if Dist(a, b) != -half || Dist(b, a) != -half {
			t.Errorf("%d and %d are %d and %d apart", a, b, Dist(a, b), Dist(b, a))
		}
		if Later(a, b) != a || Later(b, a) != b {
			t.Errorf("of %d and %d not the first one stands", a, b)
		}
	}
}

// P1.2
func TestTurned(t *testing.T) {
	for _, by := range edges() {
		for _, a := range edges() {
			for _, b := range edges() {
				checkTurned(t, a, b, by)
			}
		}
	}
}

func checkTurned(t *testing.T, a, b, by uint32) {
	t.Helper()
	if Dist(a+by, b+by) != Dist(a, b) {
		t.Errorf("Dist of %d and %d, turned by %d", a, b, by)
	}
	if Ahead(a+by, b+by) != Ahead(a, b) {
		t.Errorf("Ahead of %d and %d, turned by %d", a, b, by)
	}
	if Later(a+by, b+by) != Later(a, b)+by {
		t.Errorf("Later of %d and %d, turned by %d", a, b, by)
	}
	for _, x := range edges() {
		if In(x+by, a+by, b+by) != In(x, a, b) {
			t.Errorf("In of %d, %d and %d, turned by %d", x, a, b, by)
		}
	}
	for _, n := range steps() {
		if Step(a+by, n) != Step(a, n)+by {
			t.Errorf("Step of %d by %d, turned by %d", a, n, by)
		}
	}
}
