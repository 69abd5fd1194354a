package route

import (
	"math"
	"math/rand"
	"reflect"
	"slices"
	"testing"

	"casemate/api"
)

// sameBits tells whether the first bits of two addresses are the same, one by one.
func sameBits(a, b uint32, bits int) bool {
	for i := 0; i < bits; i++ {
		if a>>(31-i)&1 != b>>(31-i)&1 {
			return false
		}
	}
	return true
}

// slowIn is what In has to answer.
func slowIn(addr, net uint32, bits int) bool {
	return bits >= 0 && bits <= 32 && sameBits(addr, net, bits)
}

// slowFind is what Find has to answer of routes that may be: it goes from the narrowest net to the widest.
func slowFind(l []api.Route, addr uint32) (api.Route, bool) {
	for bits := 32; bits >= 0; bits-- {
		for _, r := range l {
			if r.Bits == bits && sameBits(addr, r.Net, bits) {
				return r, true
			}
		}
	}
	return api.Route{}, false
}

// hasWay fails if an address's way isn't this one.
func hasWay(t *testing.T, l []api.Route, addr uint32, want api.Route, there bool) {
	t.Helper()
	zone := -1
	if there {
		zone = want.Zone
	}
	if r, ok := Find(l, addr); r != want || ok != there {
		t.Errorf("Find(%v, %#x) = %v, %v; want %v, %v", l, addr, r, ok, want, there)
	}
	if z := Zone(l, addr); z != zone {
		t.Errorf("Zone(%v, %#x) = %d, want %d", l, addr, z, zone)
	}
}

// single is a route to one address.
func single(addr uint32) api.Route {
	return api.Route{Net: addr, Bits: 32, Mtu: 1500}
}

// randomNet is a net near others, so that many stand in one another.
func randomNet(r *rand.Rand) (uint32, int) {
	bits := r.Intn(33)
	net := []uint32{0, 0x0a000000, 0x0a010000, 0x0a010203, 0xffffffff, 0x80000000, r.Uint32()}[r.Intn(7)]
	net ^= uint32(r.Intn(4)) << r.Intn(32)
	return uint32(uint64(net) >> (32 - bits) << (32 - bits)), bits
}

// randomRoutes are routes that may be.
func randomRoutes(r *rand.Rand, n int) []api.Route {
	var list []api.Route
	for len(list) < n {
		net, bits := randomNet(r)
		if !slices.ContainsFunc(list, func(o api.Route) bool { return o.Net == net && o.Bits == bits }) {
			list = append(list, api.Route{Net: net, Bits: bits, Zone: r.Intn(8), Mtu: 68 + r.Intn(65468)})
		}
	}
	return list
}

// someAddrs are addresses in, on the edges of, and just beside the nets of routes, and others.
func someAddrs(r *rand.Rand, l []api.Route) []uint32 {
	list := []uint32{0, 1, 0x7fffffff, 0x80000000, 0xffffffff, r.Uint32()}
	for _, x := range l {
		last := x.Net | uint32(uint64(1)<<(32-x.Bits)-1)
		list = append(list, x.Net, x.Net-1, last, last+1, x.Net|last&r.Uint32())
	}
	return list
}

// The chapter's example: 10.0.0.0/8 and 10.1.0.0/16; 10.1.2.3 goes by the second.
func TestExample(t *testing.T) {
	wide := api.Route{Net: 0x0a000000, Bits: 8, Zone: 1, Mtu: 1500}
	narrow := api.Route{Net: 0x0a010000, Bits: 16, Zone: 2, Mtu: 576}
	l := []api.Route{wide, narrow}
	hasWay(t, l, 0x0a010203, narrow, true)
	hasWay(t, l, 0x0a020203, wide, true)
	hasWay(t, l, 0x0b010203, api.Route{}, false)
}

// P13.1: each number of a route has its bounds.
func TestRightBounds(t *testing.T) {
	good := api.Route{Net: 0x0a000000, Bits: 8, Zone: 3, Mtu: 1500}
	for _, c := range []struct {
		change func(*api.Route, int)
		low    int
		high   int
	}{
		{func(r *api.Route, n int) { r.Net, r.Bits = 0, n }, 0, 32},
		{func(r *api.Route, n int) { r.Zone = n }, 0, 7},
		{func(r *api.Route, n int) { r.Mtu = n }, 68, 65535},
	} {
		for _, n := range []int{math.MinInt, -math.MaxInt32 - 1, -33, -32, -1, c.low - 1, c.low, c.low + 1, (c.low + c.high) / 2, c.high - 1, c.high, c.high + 1, 64, 256, 65536, 1 << 32, 1<<32 + 8, math.MaxInt} {
			r := good
			c.change(&r, n)
			if got, want := Right([]api.Route{r}), n >= c.low && n <= c.high; got != want {
				t.Errorf("Right(%v) = %v, want %v", r, got, want)
			}
		}
	}
}

// P13.1: the bits of Net behind the first Bits are 0.
func TestRightNet(t *testing.T) {
	for bits := 0; bits <= 32; bits++ {
		for at := 0; at < 32; at++ {
			r := api.Route{Net: 1 << (31 - at), Bits: bits, Mtu: 1500}
			if got, want := Right([]api.Route{r}), at < bits; got != want {
				t.Errorf("Right(%#x/%d) = %v, want %v", r.Net, bits, got, want)
			}
		}
		full := ^uint32(0) - uint32(uint64(1)<<(32-bits)-1)
		if !Right([]api.Route{{Net: full, Bits: bits, Mtu: 1500}}) {
			t.Errorf("%#x/%d may be", full, bits)
		}
	}
}

// P13.1: there are at most 64 routes, none at all may be, and each place counts.
func TestRightMany(t *testing.T) {
	if !Right(nil) || !Right([]api.Route{}) {
		t.Error("no routes may be")
	}
	var l []api.Route
	for n := 1; n <= 66; n++ {
		l = append(l, single(uint32(n)))
		if Right(l) != (n <= 64) {
			t.Errorf("%d routes: %v", n, Right(l))
		}
	}
	l = l[:64]
	for i := range l {
		bad := slices.Clone(l)
		bad[i].Mtu = 67
		if Right(bad) {
			t.Errorf("route %d of 64 may not be", i)
		}
	}
}

// P13.1: no two routes have the same Net and Bits, wherever they stand and whatever else they say.
func TestRightTwice(t *testing.T) {
	l := []api.Route{single(1), single(2), single(3), single(4), single(5)}
	for i := range l {
		for j := range l {
			twice := slices.Clone(l)
			twice[j] = api.Route{Net: l[i].Net, Bits: 32, Zone: 7, Mtu: 68}
			if Right(twice) != (i == j) {
				t.Errorf("%d as %d: %v", i, j, Right(twice))
			}
		}
	}
	same := []api.Route{{Net: 0x0a000000, Bits: 8, Mtu: 1500}, {Net: 0x0a000000, Bits: 16, Mtu: 1500}, {Net: 0x0b000000, Bits: 8, Mtu: 1500}, {Net: 0, Bits: 16, Mtu: 1500}}
	if !Right(same) {
		t.Error("routes of one Net and other Bits, or of other Nets and the same Bits, may be")
	}
}

// P13.1: an address is in a net if its first bits are the net's; the net's other bits don't count.
func TestIn(t *testing.T) {
	for _, addr := range []uint32{0, 0x0a010203, 0x55555555, 0xaaaaaaaa, 0xffffffff} {
		for bits := -1; bits <= 33; bits++ {
			for at := 0; at < 32; at++ {
				for _, noise := range []uint32{0, 1, 0xffffffff, 0x12345678} {
					net := addr ^ 1<<(31-at) ^ noise&(1<<(31-at)-1)
					if got, want := In(addr, net, bits), bits >= 0 && bits <= at; got != want {
						t.Fatalf("In(%#x, %#x, %d) = %v, want %v", addr, net, bits, got, want)
					}
				}
			}
			if In(addr, addr, bits) != (bits >= 0 && bits <= 32) {
				t.Errorf("In(%#x, itself, %d)", addr, bits)
			}
		}
	}
}

// P13.1: of numbers of bits that are none, nothing is in a net.
func TestInWrong(t *testing.T) {
	for _, bits := range []int{math.MinInt, math.MinInt32, -32, -1, 33, 64, 256, 1 << 32, 1<<32 + 8, math.MaxInt} {
		for _, addr := range []uint32{0, 5, 0xffffffff} {
			if In(addr, addr, bits) || In(addr, 0, bits) {
				t.Errorf("In(%#x, .., %d)", addr, bits)
			}
		}
	}
}

// P13.1: In of numbers at random.
func TestInRandom(t *testing.T) {
	r := rand.New(rand.NewSource(1))
	for i := 0; i < 20000; i++ {
		addr, bits := r.Uint32(), r.Intn(36)-2
		net := addr ^ r.Uint32()>>r.Intn(33)
		if got, want := In(addr, net, bits), slowIn(addr, net, bits); got != want {
			t.Fatalf("In(%#x, %#x, %d) = %v, want %v", addr, net, bits, got, want)
		}
	}
}

// P13.2: of nets that stand in one another the narrowest is taken, in whatever order they stand.
func TestFindNested(t *testing.T) {
	var l []api.Route
	for bits := 0; bits <= 32; bits++ {
		l = append(l, api.Route{Net: ^uint32(0) - uint32(uint64(1)<<(32-bits)-1), Bits: bits, Zone: bits % 8, Mtu: 100 + bits})
	}
	back := slices.Clone(l)
	slices.Reverse(back)
	for at := 0; at < 32; at++ {
		hasWay(t, l, ^uint32(1<<(31-at)), l[at], true)
		hasWay(t, back, ^uint32(1<<(31-at)), l[at], true)
	}
	hasWay(t, l, 0xffffffff, l[32], true)
	hasWay(t, back, 0xffffffff, l[32], true)
}

// P13.2: no route, or none in whose net it is.
func TestFindNone(t *testing.T) {
	hasWay(t, nil, 0, api.Route{}, false)
	hasWay(t, []api.Route{}, 0x0a000001, api.Route{}, false)
	l := []api.Route{{Net: 0x0a000000, Bits: 8, Zone: 0, Mtu: 1500}}
	hasWay(t, l, 0x09ffffff, api.Route{}, false)
	hasWay(t, l, 0x0a000000, l[0], true)
	hasWay(t, l, 0x0affffff, l[0], true)
	hasWay(t, l, 0x0b000000, api.Route{}, false)
	hasWay(t, l, 0, api.Route{}, false)
}

// P13.2: the way of everybody, of no bits, is one, also when it is the only one.
func TestFindAll(t *testing.T) {
	l := []api.Route{{Zone: 5, Mtu: 1500}}
	for _, addr := range []uint32{0, 1, 0x0a000001, 0x80000000, 0xffffffff} {
		hasWay(t, l, addr, l[0], true)
	}
}

// P13.2: of routes that may not be, no way is told, also where a right one would be there.
func TestFindWrong(t *testing.T) {
	good := api.Route{Net: 0x0a000000, Bits: 8, Zone: 2, Mtu: 1500}
	for _, bad := range []api.Route{{Net: 1, Bits: 31, Mtu: 100}, {Bits: 33, Mtu: 100}, {Bits: -1, Mtu: 100}, {Zone: 8, Mtu: 100}, {Zone: -1, Mtu: 100}, {Mtu: 67}, {Mtu: 65536}, {}, good, {Net: good.Net, Bits: good.Bits, Mtu: 68}} {
		hasWay(t, []api.Route{good, bad}, 0x0a000001, api.Route{}, false)
		hasWay(t, []api.Route{bad, good}, 0x0a000001, api.Route{}, false)
	}
	var many []api.Route
	for n := 0; n < 65; n++ {
		many = append(many, single(uint32(n)))
	}
	hasWay(t, many, 3, api.Route{}, false)
	hasWay(t, many[:64], 3, many[3], true)
	hasWay(t, many[:64], 63, many[63], true)
	hasWay(t, many[:64], 64, api.Route{}, false)
}

// P13.2: routes at random against the slow way.
func TestFindRandom(t *testing.T) {
	r := rand.New(rand.NewSource(2))
	for i := 0; i < 1500; i++ {
		l := randomRoutes(r, r.Intn(65))
		if !Right(l) {
			t.Fatalf("%v may be", l)
		}
		for _, addr := range someAddrs(r, l) {
			want, there := slowFind(l, addr)
			hasWay(t, l, addr, want, there)
		}
	}
}

// P13.3: the order of routes doesn't matter.
func TestOrder(t *testing.T) {
	r := rand.New(rand.NewSource(3))
	for i := 0; i < 300; i++ {
		l := randomRoutes(r, 1+r.Intn(12))
		other := slices.Clone(l)
		r.Shuffle(len(other), func(i, j int) { other[i], other[j] = other[j], other[i] })
		for _, addr := range someAddrs(r, l) {
			want, there := Find(l, addr)
			hasWay(t, other, addr, want, there)
		}
	}
}

// P13.3: a route that is added changes the way of those in its net alone.
func TestAdded(t *testing.T) {
	r := rand.New(rand.NewSource(4))
	changed := 0
	for i := 0; i < 600; i++ {
		all := randomRoutes(r, 2+r.Intn(20))
		few, added := all[1:], all[0]
		for _, addr := range someAddrs(r, all) {
			before, there := Find(few, addr)
			after, still := Find(all, addr)
			switch {
			case before == after && there == still:
			case after != added || !still || !In(addr, added.Net, added.Bits):
				t.Fatalf("%v: %#x went by %v, with %v by %v", few, addr, before, added, after)
			default:
				changed++
			}
		}
	}
	if changed == 0 {
		t.Error("no way was changed at all")
	}
}

// What is handed in is neither changed nor kept, and the same question has the same answer.
func TestOnceMore(t *testing.T) {
	r := rand.New(rand.NewSource(5))
	l := randomRoutes(r, 20)
	room := append(slices.Clone(l), randomRoutes(r, 4)...)
	before := slices.Clone(room)
	for _, addr := range someAddrs(r, l) {
		first, ok := Find(room[:20], addr)
		zone := Zone(room[:20], addr)
		Find(room[:5], ^addr)
		hasWay(t, room[:20], addr, first, ok)
		if Zone(room[:20], addr) != zone || !Right(room[:20]) {
			t.Errorf("%#x goes another way", addr)
		}
	}
	if !reflect.DeepEqual(room, before) {
		t.Error("the routes were changed")
	}
	first, _ := Find(room[:20], room[0].Net)
	room[0].Mtu = 68
	if again, ok := Find(l, room[0].Net); again != first || !ok {
		t.Error("the routes were kept")
	}
}
