package csum

import (
	"bytes"
	"math"
	"math/rand"
	"testing"
)

const top = 65535

// edges are the words near which a sum turns over.
func edges() []uint16 {
	return []uint16{0, 1, 2, 0xff, 0x100, 0x101, 0x1234, 0x7fff, 0x8000, 0x8001, 0xfeff, 0xff00, top - 2, top - 1, top}
}

// bytesOf tells words as bytes, the higher byte of each first.
func bytesOf(words ...uint16) []byte {
	var b []byte
	for _, w := range words {
		b = append(b, byte(w>>8), byte(w))
	}
	return b
}

// slowly adds the words of some bytes one by one, and lets what stands above 16 bits in at each step.
func slowly(b []byte) uint16 {
	sum := 0
	for i, c := range b {
		word := int(c)
		if i%2 == 0 {
			word *= 256
		}
		sum += word
		if sum > top {
			sum -= top
		}
	}
	return uint16(sum)
}

// someBytes are as many bytes as are asked, the same ones at each run.
func someBytes(n int, seed int64) []byte {
	b := make([]byte, n)
	rand.New(rand.NewSource(seed)).Read(b)
	return b
}

// P2.1, with the chapter's example.
func TestSum(t *testing.T) {
	for _, c := range []struct {
		b    []byte
		want uint16
	}{
		{[]byte{0, 1, 0xf2, 3}, 0xf204},
		{[]byte{0, 1, 0xf2, 3, 0xf4, 0xf5, 0xf6, 0xf7}, 0xddf2},
		// The higher byte stands first.
		{[]byte{0x12, 0x34}, 0x1234},
		{[]byte{0, 1}, 1},
		{[]byte{1, 0}, 0x100},
		// No bytes.
		{nil, 0},
		{[]byte{}, 0},
		// An odd number of bytes.
		{[]byte{0}, 0},
		{[]byte{1}, 0x100},
		{[]byte{0xff}, 0xff00},
		{[]byte{0x12, 0x34, 0x56}, 0x6834},
		{[]byte{0xff, 0xff, 0xff}, 0xff00},
		{[]byte{0, 0, 0}, 0},
		{[]byte{0, 0, 0, 0, 7}, 0x700},
		// Words that are all 0.
		{[]byte{0, 0}, 0},
		{make([]byte, 40), 0},
		{make([]byte, 41), 0},
		// Sums of 65535.
		{[]byte{0xff, 0xff}, top},
		{[]byte{0xff, 0xff, 0xff, 0xff}, top},
		{[]byte{0, 0, 0xff, 0xff, 0, 0}, top},
		{[]byte{0x12, 0x34, 0xed, 0xcb}, top},
		{[]byte{0xff, 0xfe, 0, 1}, top},
		{[]byte{0xff, 0, 0, 0xff}, top},
		{[]byte{0, 0xff, 0xff}, top},
		// What stands above 16 bits is added below.
		{[]byte{0x80, 0, 0x80, 0}, 1},
		{[]byte{0x80, 1, 0x80, 1}, 3},
		{[]byte{0xff, 0xff, 0, 1}, 1},
		{[]byte{0xff, 0xff, 0xff, 0xfe}, top - 1},
		// And once more, since something stands there again.
		{[]byte{0xff, 0xff, 0xff, 0xff, 0, 1}, 1},
		{[]byte{0xff, 0xff, 0xff, 0xff, 0, 2}, 2},
		{[]byte{0xff, 0xff, 0xff, 0xff, 0xff, 0xff, 0, 2}, 2},
		{[]byte{0xff, 0xff, 0xff, 0xff, 1}, 0x100},
	} {
		before := bytes.Clone(c.b)
		if got := Sum(c.b); got != c.want {
			t.Errorf("Sum(% x) is %04x, not %04x", c.b, got, c.want)
		}
		if got := Of(c.b); got != top-c.want {
			t.Errorf("Of(% x) is %04x, not %04x", c.b, got, top-c.want)
		}
		if !bytes.Equal(c.b, before) {
			t.Errorf("% x was changed to % x", before, c.b)
		}
	}
	if got := Of([]byte{0, 1, 0xf2, 3}); got != 0x0dfb {
		t.Errorf("the chapter's example is %04x", got)
	}
}

// P2.1: a whole head of a packet, as RFC 791 has it.
func TestSumOfHead(t *testing.T) {
	head := []byte{0x45, 0, 0, 0x73, 0, 0, 0x40, 0, 0x40, 0x11, 0, 0, 0xc0, 0xa8, 0, 1, 0xc0, 0xa8, 0, 0xc7}
	if got := Of(head); got != 0xb861 {
		t.Errorf("the head's check sum is %04x", got)
	}
	head[10], head[11] = 0xb8, 0x61
	if got := Sum(head); got != top {
		t.Errorf("the whole head's sum is %04x", got)
	}
}

// P2.1: lengths of all kinds, added another way.
func TestSumOfLengths(t *testing.T) {
	for n := range 200 {
		b := someBytes(n, int64(n))
		if got := Sum(b); got != slowly(b) {
			t.Errorf("Sum(% x) is %04x, not %04x", b, got, slowly(b))
		}
		if got := Of(b); got != top-slowly(b) {
			t.Errorf("Of(% x) is %04x, not %04x", b, got, top-slowly(b))
		}
	}
}

// P2.1: so many bytes that what stands above 16 bits has more than 16 bits itself.
func TestSumOfMany(t *testing.T) {
	for _, n := range []int{65534, 65535, 65536, 131070, 131072, 131074, 131076, 131077, 262148, 600001} {
		full := bytes.Repeat([]byte{0xff}, n)
		if got := Sum(full); got != slowly(full) {
			t.Errorf("Sum of %d bytes 255 is %04x, not %04x", n, got, slowly(full))
		}
		b := someBytes(n, int64(n))
		if got := Sum(b); got != slowly(b) {
			t.Errorf("Sum of %d bytes is %04x, not %04x", n, got, slowly(b))
		}
	}
	if got := Sum(bytes.Repeat([]byte{0xff, 0xff}, 70000)); got != top {
		t.Errorf("Sum of 70000 words 65535 is %04x", got)
	}
}

// P2.1: what stands in front of the bytes and behind them doesn't count, and stays.
func TestSumLeavesRoom(t *testing.T) {
	room := []byte{9, 8, 7, 6, 5, 4, 3}
	for _, c := range []struct {
		b    []byte
		want uint16
	}{{room[1:3], 0x807}, {room[1:4], 0xe07}, {room[2:5], 0xc06}, {room[:0], 0}} {
		if Sum(c.b) != c.want || Of(c.b) != top-c.want {
			t.Errorf("Sum(% x) is %04x, Of is %04x", c.b, Sum(c.b), Of(c.b))
		}
	}
	if !bytes.Equal(room, []byte{9, 8, 7, 6, 5, 4, 3}) {
		t.Errorf("the bytes were changed to % x", room)
	}
}

// P2.1
func TestJoin(t *testing.T) {
	for _, c := range []struct{ a, b, want uint16 }{
		{0, 0, 0},
		{1, 2, 3},
		{0x1234, 0x4321, 0x5555},
		{top, 0, top},
		{0, top, top},
		{top, top, top},
		{top, 1, 1},
		{1, top, 1},
		{top - 1, 1, top},
		{top - 1, 2, 1},
		{top - 1, top - 1, top - 2},
		{0x8000, 0x8000, 1},
		{0x8000, 0x7fff, top},
		{40000, 40000, 14465},
	} {
		if got := Join(c.a, c.b); got != c.want {
			t.Errorf("Join(%04x, %04x) is %04x, not %04x", c.a, c.b, got, c.want)
		}
	}
	for _, a := range edges() {
		for _, b := range edges() {
			if got, want := Join(a, b), slowly(bytesOf(a, b)); got != want {
				t.Errorf("Join(%04x, %04x) is %04x, not %04x", a, b, got, want)
			}
		}
	}
}

// P2.1
func TestPseudo(t *testing.T) {
	for _, c := range []struct {
		src, dst    uint32
		proto, size int
		want        uint16
	}{
		{0, 0, 0, 0, 0},
		{0x00020000, 0, 0, 0, 2},
		{0x00000002, 0, 0, 0, 2},
		{0, 0x00020000, 0, 0, 2},
		{0, 0x00000002, 0, 0, 2},
		{0, 0, 2, 0, 2},
		{0, 0, 0, 2, 2},
		{0x0a000001, 0xc0000201, 6, 20, 0xcc1c},
		{0xc0a80001, 0xc0a800c7, 17, 95, 0x8289},
		{0xffffffff, 0, 0, 0, top},
		{0xffffffff, 0xffffffff, top, top, top},
		{0xffffffff, 0xffffffff, 1, 0, 1},
		{0xffffffff, 0xffffffff, 0, 1, 1},
		{0x80008000, 0x80008000, 0, 0, 2},
		// Each of both is taken modulo 2^16.
		{0, 0, top, 0, top},
		{0, 0, 0, top, top},
		{0, 0, 65536, 0, 0},
		{0, 0, 0, 65536, 0},
		{0, 0, 65537, 0, 1},
		{0, 0, 0, 65537, 1},
		{0, 0, -1, 0, top},
		{0, 0, 0, -1, top},
		{0, 0, -65536, 0, 0},
		{0, 0, 0, -65536, 0},
		{0, 0, -65535, 0, 1},
		{0, 0, 0, -65535, 1},
		{0, 0, -1, -1, top},
		{0, 0, -1, 1, 1},
		{0, 0, 65536 + 6, 3*65536 + 20, 26},
		{0, 0, 6 - 65536, 20 - 65536, 26},
		{0, 0, math.MaxInt, 0, top},
		{0, 0, 0, math.MaxInt, top},
		{0, 0, math.MinInt, math.MinInt, 0},
		{0, 0, math.MinInt + 3, math.MaxInt, 3},
	} {
		if got := Pseudo(c.src, c.dst, c.proto, c.size); got != c.want {
			t.Errorf("Pseudo(%08x, %08x, %d, %d) is %04x, not %04x", c.src, c.dst, c.proto, c.size, got, c.want)
		}
	}
}

// P2.1: the pseudo head as the bytes that it stands for.
func TestPseudoAsBytes(t *testing.T) {
	for _, a := range edges() {
		for _, b := range edges() {
			src, dst := uint32(a)<<16|uint32(b), uint32(b^0x5a5a)<<16|uint32(a)
			for _, size := range []int{-1, 0, 20, top - 1, top, 65536, 70000} {
				want := slowly(bytesOf(a, b, b^0x5a5a, a, 17, uint16(size)))
				if got := Pseudo(src, dst, 17, size); got != want {
					t.Errorf("Pseudo(%08x, %08x, 17, %d) is %04x, not %04x", src, dst, size, got, want)
				}
			}
		}
	}
}

// P2.2
func TestMend(t *testing.T) {
	for _, c := range []struct{ check, old, now, want uint16 }{
		// RFC 1624's own: a difference that is plainly taken would answer ffff.
		{0xdd2f, 0x5555, 0x3285, 0},
		{0x0dfb, 1, 0, 0x0dfc},
		{0x0dfb, 1, 2, 0x0dfa},
		{0x0dfb, 0xf203, 0, 0xfffe},
		{0x0dfb, 0xf203, top, 0xfffe},
		{0x0dfb, 1, 1, 0x0dfb},
		// One that makes all words 0.
		{0xedcb, 0x1234, 0, 0},
		{0xfffe, 1, 0, 0},
		{0, top, 0, 0},
		// And from all 0 on.
		{top, 0, 0, 0},
		{top, 0, 1, 0xfffe},
		{top, 0, 0x1234, 0xedcb},
		{top, 0, top, 0},
		// Sums of 65535 on both sides.
		{0, 0x1234, 0x1234, 0},
		{0, top, top, 0},
		{0, 0, top, 0},
		{0, 0x1234, 0x1235, 0xfffe},
		{0xfffe, 0x1235, 0x1234, 0},
		// A check sum that is none of such words: the same way.
		{top, top, 0, top},
		{top, top, 5, 0xfffa},
	} {
		if got := Mend(c.check, c.old, c.now); got != c.want {
			t.Errorf("Mend(%04x, %04x, %04x) is %04x, not %04x", c.check, c.old, c.now, got, c.want)
		}
	}
}

// P2.2: the way that the chapter tells, at all edges, whatever words there may be.
func TestMendByJoin(t *testing.T) {
	for _, check := range edges() {
		for _, old := range edges() {
			for _, now := range edges() {
				want := top - slowly(bytesOf(top-check, top-old, now))
				if got := Mend(check, old, now); got != want {
					t.Errorf("Mend(%04x, %04x, %04x) is %04x, not %04x", check, old, now, got, want)
				}
			}
		}
	}
}

// P2.2: what is mended is the check sum of the changed words, unless these are all 0.
func TestMendOfWords(t *testing.T) {
	for _, old := range edges() {
		for _, other := range edges() {
			for _, third := range edges() {
				for _, now := range edges() {
					checkMend(t, []uint16{other, old, third}, 1, now)
				}
			}
		}
	}
}

// P2.2: of many words, each of them once.
func TestMendOfMany(t *testing.T) {
	words := make([]uint16, 50)
	for i := range words {
		words[i] = uint16(i*7919 + 3)
	}
	for i := range words {
		for _, now := range edges() {
			checkMend(t, words, i, now)
		}
	}
}

// P2.2: one word alone, which becomes 0.
func TestMendToNothing(t *testing.T) {
	for old := range 65536 {
		check := Of(bytesOf(uint16(old)))
		if got := Mend(check, uint16(old), 0); got != 0 {
			t.Errorf("of %04x alone, made 0, the sum is mended to %04x", old, got)
		}
	}
	if Of(bytesOf(0)) != top {
		t.Error("the check sum of a word 0 isn't 65535")
	}
}

func checkMend(t *testing.T, words []uint16, at int, now uint16) {
	t.Helper()
	changed := append([]uint16{}, words...)
	changed[at] = now
	want := Of(bytesOf(changed...))
	if want == top {
		want = 0
	}
	if got := Mend(Of(bytesOf(words...)), words[at], now); got != want {
		t.Errorf("%04x with %04x at %d is mended to %04x, not %04x", words, now, at, got, want)
	}
}

// P2.3
func TestOwnSum(t *testing.T) {
	for n := range 120 {
		for at := 0; at+2 <= n; at += 2 {
			b := someBytes(n, int64(n))
			b[at], b[at+1] = 0, 0
			check := Of(b)
			b[at], b[at+1] = byte(check>>8), byte(check)
			if got := Sum(b); got != top {
				t.Errorf("% x, with its own sum at %d, has the sum %04x", b, at, got)
			}
			if got := Of(b); got != 0 {
				t.Errorf("% x, with its own sum at %d, has the check sum %04x", b, at, got)
			}
		}
	}
}

// P2.3: a check sum that is mended fits as well, but where all the other bytes are 0.
func TestOwnSumMended(t *testing.T) {
	for _, now := range edges() {
		for _, other := range edges() {
			check := Mend(Of(bytesOf(0x4500, other, 0)), 0x4500, now)
			want := uint16(top)
			if now == 0 && other == 0 {
				want = 0
			}
			if got := Sum(bytesOf(now, other, check)); got != want {
				t.Errorf("%04x and %04x with the sum %04x have the sum %04x", now, other, check, got)
			}
		}
	}
}

// P2.3: bytes that are all 0: with their own check sum, 65535, among them they have the sum 65535; left 0 they have 0.
func TestOwnSumOfNothing(t *testing.T) {
	b := make([]byte, 20)
	if Sum(b) != 0 || Of(b) != top {
		t.Errorf("noughts have the sum %04x and the check sum %04x", Sum(b), Of(b))
	}
	b[10], b[11] = 0xff, 0xff
	if Sum(b) != top {
		t.Errorf("noughts with 65535 among them have the sum %04x", Sum(b))
	}
}

// P2.3
func TestOrder(t *testing.T) {
	chance := rand.New(rand.NewSource(5))
	for n := range 60 {
		words := append(edges(), edges()...)
		for i := range n {
			words = append(words, uint16(i*40503))
		}
		want := Sum(bytesOf(words...))
		chance.Shuffle(len(words), func(i, j int) { words[i], words[j] = words[j], words[i] })
		if got := Sum(bytesOf(words...)); got != want {
			t.Errorf("%04x have the sum %04x, in another order %04x", words, got, want)
		}
		joined := uint16(0)
		for _, w := range words {
			joined = Join(joined, w)
		}
		if joined != want {
			t.Errorf("%04x have the sum %04x, joined one by one %04x", words, want, joined)
		}
	}
}

// P2.3: the bytes of a word are not in any order, nor are two sides that are joined anything but alike.
func TestOrderOfJoin(t *testing.T) {
	if Sum([]byte{1, 2}) == Sum([]byte{2, 1}) {
		t.Error("both bytes of a word count alike")
	}
	for _, a := range edges() {
		for _, b := range edges() {
			if Join(a, b) != Join(b, a) {
				t.Errorf("Join of %04x and %04x hangs on their order", a, b)
			}
			for _, c := range edges() {
				if Join(Join(a, b), c) != Join(a, Join(b, c)) {
					t.Errorf("Join of %04x, %04x and %04x hangs on their order", a, b, c)
				}
			}
		}
	}
}
