// Package seq is layer 1: numbers that go round. See shared/doc/01-seq.md.
package seq

// Dist tells the distance from a to b: from -2^31 to 2^31 - 1, below 0 if b is behind a.
func Dist(a, b uint32) int {
	// As 32 bits with a sign, the half that is nearer by going back comes out below 0.
	return int(int32(b - a))
}

// Ahead tells whether a comes later than b. Of two that are 2^31 apart neither does.
func Ahead(a, b uint32) bool {
	return Dist(b, a) > 0
}

// Later answers the one that is ahead of the other one; a, if none is.
func Later(a, b uint32) uint32 {
	if Ahead(b, a) {
		return b
	}
	return a
}

// In tells whether x is at from, at to, or on the way up from the one to the other.
func In(x, from, to uint32) bool {
	// Counted from from on, the way doesn't go round, however long it is.
	return x-from <= to-from
}

// Step answers the number that is n further on; back, if n is below 0.
func Step(a uint32, n int) uint32 {
	// The cut to 32 bits is the remainder by 2^32, for an n below 0 as well.
	return a + uint32(n)
}
