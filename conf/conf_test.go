package conf

import (
	"fmt"
	"math"
	"math/big"
	"math/rand"
	"reflect"
	"regexp"
	"strings"
	"testing"

	"casemate/api"
	"casemate/route"
	"casemate/rules"
)

// numbers are numbers around the edges of what may be, and far off.
var numbers = []int{math.MinInt, math.MinInt32, -256, -3, -2, -1, 0, 1, 2, 3, 5, 6, 7, 8, 9, 16, 17, 18, 32, 33, 255, 256, 999, 1000, 1001, 1023, 1024, 1025, 65534, 65535, 65536, 65537, 1<<20 - 1, 1 << 20, 1<<20 + 1, math.MaxInt32, math.MaxUint32, 1 << 32, 1<<32 + 1, math.MaxInt}

// plain is a configuration that may be, of some of each list.
func plain() api.Config {
	return api.Config{
		Routes: []api.Route{{Net: 0x0a000000, Bits: 8, Zone: 1, Mtu: 1500}, {Zone: 0, Mtu: 68}},
		Rules: []api.Rule{
			{From: 1, To: 0, Src: 0x0a000000, SrcBits: 8, Hi: 65535, Action: api.Allow},
			{From: -1, To: -1, Proto: 6, Dst: 0x0a000005, DstBits: 32, Lo: 80, Hi: 90, Action: api.Deny},
		},
		Outside: 3, Public: 0xcb007109, Lo: 5000, Hi: 6000,
		Forwards: []api.Forward{{Proto: 6, Port: 80, Addr: 0x0a000005, To: 8080, Proxy: true}, {Proto: 17, Port: 53, Addr: 0x0a000006, To: 54}},
		Tcp:      7, Other: 8, Budget: 3,
	}
}

// plainText is how it is shown.
const plainText = "route 10.0.0.0/8 1 1500\nroute 0.0.0.0/0 0 68\n" +
	"rule 1 0 0 10.0.0.0/8 0.0.0.0/0 0 65535 allow\nrule -1 -1 6 0.0.0.0/0 10.0.0.5/32 80 90 deny\n" +
	"outside 3\npublic 203.0.113.9 5000 6000\nforward 6 80 10.0.0.5 8080 proxy\nforward 17 53 10.0.0.6 54\nlife 7 8\nbudget 3\n"

// ofNone is the configuration of no lines.
func ofNone() api.Config {
	return api.Config{Lo: 1024, Hi: 65535, Tcp: 1000, Other: 100, Budget: 10}
}

// reads fails if the text isn't read as this configuration.
func reads(t *testing.T, text string, want api.Config) {
	t.Helper()
	c, e, at := Parse(text)
	if e != api.OK || at != 0 || !sameAll(c, want) {
		t.Errorf("Parse(%q) = %v, %d, %d; want %v", text, c, e, at, want)
	}
}

// fails fails if the text isn't refused by this error at this line.
func fails(t *testing.T, text string, want api.Errno, line int) {
	t.Helper()
	c, e, at := Parse(text)
	if e != want || at != line || !reflect.DeepEqual(c, api.Config{}) {
		t.Errorf("Parse(%.300q) = %v, %d, %d; want error %d in line %d", text, c, e, at, want, line)
	}
}

// sameAll holds two configurations against each other, a list being nil or empty alike.
func sameAll(a, b api.Config) bool {
	return fmt.Sprintf("%v", a) == fmt.Sprintf("%v", b)
}

// wrongOnes are configurations that may not be, each by one thing.
func wrongOnes() []api.Config {
	var list []api.Config
	for _, change := range []func(*api.Config){
		func(c *api.Config) { c.Routes[0].Mtu = 67 },
		func(c *api.Config) { c.Routes[1] = c.Routes[0] },
		func(c *api.Config) { c.Rules[0].Action = 0 },
		func(c *api.Config) { c.Rules[1].From = 8 },
		func(c *api.Config) { c.Outside = -1 },
		func(c *api.Config) { c.Outside = 8 },
		func(c *api.Config) { c.Lo = 0 },
		func(c *api.Config) { c.Lo = 6001 },
		func(c *api.Config) { c.Hi = 65536 },
		func(c *api.Config) { c.Hi = 4999 },
		func(c *api.Config) { c.Forwards[1].Proto = 1 },
		func(c *api.Config) { c.Forwards[0].Port = 0 },
		func(c *api.Config) { c.Forwards[0].Port = 65536 },
		func(c *api.Config) { c.Forwards[0].Port = 5500 },
		func(c *api.Config) { c.Forwards[0].To = 0 },
		func(c *api.Config) { c.Forwards[1].To = 65536 },
		func(c *api.Config) { c.Forwards[1].Proxy = true },
		func(c *api.Config) { c.Forwards[1] = api.Forward{Proto: 6, Port: 80, To: 1} },
		func(c *api.Config) { c.Tcp = 0 },
		func(c *api.Config) { c.Tcp = 1<<20 + 1 },
		func(c *api.Config) { c.Other = 0 },
		func(c *api.Config) { c.Other = 1<<20 + 1 },
		func(c *api.Config) { c.Budget = -1 },
		func(c *api.Config) { c.Budget = 1001 },
	} {
		c := plain()
		change(&c)
		list = append(list, c)
	}
	return list
}

// randomConfig is a configuration that may be.
func randomConfig(r *rand.Rand) api.Config {
	lo := 100 + r.Intn(65436)
	c := api.Config{Outside: r.Intn(8), Public: r.Uint32(), Lo: lo, Hi: lo + r.Intn(65536-lo), Tcp: 1 + r.Intn(1<<20), Other: 1 + r.Intn(1<<20), Budget: r.Intn(1001)}
	for range r.Intn(65) {
		bits := r.Intn(33)
		next := api.Route{Net: uint32(uint64(r.Uint32()) >> (32 - bits) << (32 - bits)), Bits: bits, Zone: r.Intn(8), Mtu: 68 + r.Intn(65535-67)}
		if route.Right(append(c.Routes[:len(c.Routes):len(c.Routes)], next)) {
			c.Routes = append(c.Routes, next)
		}
	}
	for range r.Intn(65) {
		low := r.Intn(65536)
		c.Rules = append(c.Rules, api.Rule{From: r.Intn(9) - 1, To: r.Intn(9) - 1, Proto: r.Intn(256), Src: r.Uint32(), Dst: r.Uint32(), SrcBits: r.Intn(33), DstBits: r.Intn(33), Lo: low, Hi: low + r.Intn(65536-low), Action: 1 + r.Intn(2)})
	}
	for port := range r.Intn(33) {
		proto := []int{6, 17}[r.Intn(2)]
		c.Forwards = append(c.Forwards, api.Forward{Proto: proto, Port: 1 + 3*port, Addr: r.Uint32(), To: 1 + r.Intn(65535), Proxy: proto == 6 && r.Intn(2) == 0})
	}
	return c
}

// The chapter's example: of no lines: no routes, no rules: all is denied.
func TestExample(t *testing.T) {
	reads(t, "", ofNone())
	c, _, _ := Parse("")
	if len(c.Routes) != 0 || len(c.Rules) != 0 || len(c.Forwards) != 0 || c.Outside != 0 || c.Public != 0 {
		t.Error(c)
	}
	r := rand.New(rand.NewSource(1))
	for range 200 {
		who := api.Tuple{Proto: r.Intn(256), Src: r.Uint32(), Sport: r.Intn(65536), Dst: r.Uint32(), Dport: r.Intn(65536)}
		if a, at := rules.Ask(c.Rules, r.Intn(8), r.Intn(8), who); a != api.Deny || at != -1 {
			t.Error(who, a, at)
		}
		if z := route.Zone(c.Routes, who.Dst); z != -1 {
			t.Error(who, z)
		}
	}
}

// P15.1: each number of a configuration has its bounds.
func TestRightBounds(t *testing.T) {
	for i, c := range []struct {
		change    func(*api.Config, int)
		low, high int
	}{
		{func(c *api.Config, n int) { c.Outside = n }, 0, 7},
		{func(c *api.Config, n int) { c.Lo, c.Forwards = n, nil }, 1, 6000},
		{func(c *api.Config, n int) { c.Hi, c.Forwards = n, nil }, 5000, 65535},
		{func(c *api.Config, n int) { c.Lo, c.Hi, c.Forwards = n, n, nil }, 1, 65535},
		{func(c *api.Config, n int) { c.Lo, c.Hi, c.Forwards = 1, n, nil }, 1, 65535},
		{func(c *api.Config, n int) { c.Lo, c.Hi, c.Forwards = n, 65535, nil }, 1, 65535},
		{func(c *api.Config, n int) { c.Forwards[0].To = n }, 1, 65535},
		{func(c *api.Config, n int) { c.Forwards[1].To = n }, 1, 65535},
		{func(c *api.Config, n int) { c.Lo, c.Hi, c.Forwards[0].Port = 4, 4, n }, 1, 65535},
		{func(c *api.Config, n int) { c.Lo, c.Hi, c.Forwards[1].Port = 4, 4, n }, 1, 65535},
		{func(c *api.Config, n int) { c.Tcp = n }, 1, 1 << 20},
		{func(c *api.Config, n int) { c.Other = n }, 1, 1 << 20},
		{func(c *api.Config, n int) { c.Budget = n }, 0, 1000},
	} {
		for _, n := range append([]int{c.low - 1, c.low, c.low + 1, c.high - 1, c.high, c.high + 1, -c.high}, numbers...) {
			cfg := plain()
			c.change(&cfg, n)
			if got, want := Right(cfg), n >= c.low && n <= c.high; got != want {
				t.Errorf("case %d, %d: Right is %v, want %v", i, n, got, want)
			}
		}
	}
}

// P15.1: a forward is of TCP or UDP, and only that of TCP has a proxy.
func TestRightForwardProtocols(t *testing.T) {
	for _, n := range append(numbers, 4, 15) {
		for _, proxy := range []bool{false, true} {
			c := plain()
			c.Forwards = []api.Forward{{Proto: n, Port: 80, To: 1, Proxy: proxy}}
			if got, want := Right(c), n == 6 || n == 17 && !proxy; got != want {
				t.Errorf("protocol %d, proxy %v: Right is %v", n, proxy, got)
			}
		}
	}
}

// P15.1: no two forwards have the same protocol and port, whatever else they have.
func TestRightForwardsTwice(t *testing.T) {
	for _, protos := range [][2]int{{6, 6}, {6, 17}, {17, 6}, {17, 17}} {
		for _, ports := range [][2]int{{80, 80}, {80, 81}, {81, 80}} {
			c := plain()
			a := api.Forward{Proto: protos[0], Port: ports[0], Addr: 1, To: 1, Proxy: protos[0] == 6}
			between := api.Forward{Proto: 6, Port: 9, To: 9}
			b := api.Forward{Proto: protos[1], Port: ports[1], Addr: 2, To: 2}
			want := protos[0] != protos[1] || ports[0] != ports[1]
			for _, c.Forwards = range [][]api.Forward{{a, b}, {a, between, b}, {a, b, between}, {between, a, b}} {
				if Right(c) != want {
					t.Errorf("%v: Right is %v", c.Forwards, !want)
				}
			}
		}
	}
}

// P15.1: no forward's port is one that is lent, whatever its protocol.
func TestRightForwardsAndLent(t *testing.T) {
	for _, lent := range [][2]int{{5000, 6000}, {5000, 5000}, {1, 10}, {60000, 65535}, {1, 65535}} {
		for _, port := range []int{1, 2, 9, 10, 11, 4999, 5000, 5001, 5500, 5999, 6000, 6001, 59999, 60000, 65535} {
			for _, proto := range []int{6, 17} {
				c := plain()
				c.Lo, c.Hi = lent[0], lent[1]
				f := api.Forward{Proto: proto, Port: port, To: 5500}
				c.Forwards = []api.Forward{f}
				if got, want := Right(c), port < lent[0] || port > lent[1]; got != want {
					t.Errorf("%v %d: Right is %v", lent, port, got)
				}
			}
		}
	}
	// Inside, any port may be led to.
	c := plain()
	c.Forwards[0].To, c.Forwards[1].To = 5500, 5500
	if !Right(c) {
		t.Error("a port inside may be any")
	}
}

// P15.1: the lists have their bounds, and are asked of their layers.
func TestRightLists(t *testing.T) {
	for _, n := range []int{0, 1, 31, 32, 33, 63, 64, 65, 200} {
		routes, ruled, forwards := plain(), plain(), plain()
		routes.Routes, ruled.Rules, forwards.Forwards = nil, nil, nil
		for i := range n {
			routes.Routes = append(routes.Routes, api.Route{Net: uint32(i) << 16, Bits: 16, Mtu: 576})
			ruled.Rules = append(ruled.Rules, api.Rule{Action: api.Allow})
			forwards.Forwards = append(forwards.Forwards, api.Forward{Proto: 6, Port: i + 1, To: 1})
		}
		if got := Right(routes); got != (n <= 64) {
			t.Errorf("%d routes: %v", n, got)
		}
		if got := Right(ruled); got != (n <= 64) {
			t.Errorf("%d rules: %v", n, got)
		}
		if got := Right(forwards); got != (n <= 32) {
			t.Errorf("%d forwards: %v", n, got)
		}
	}
}

// P15.1: what may not be by one thing, may not be; what may be, may.
func TestRight(t *testing.T) {
	if !Right(plain()) || !Right(ofNone()) {
		t.Error("they may be")
	}
	if Right(api.Config{}) {
		t.Error("an empty one may not be")
	}
	for i, c := range wrongOnes() {
		if Right(c) {
			t.Errorf("%d: %v may not be", i, c)
		}
	}
	r := rand.New(rand.NewSource(2))
	for range 200 {
		if c := randomConfig(r); !Right(c) {
			t.Errorf("%v may be", c)
		}
	}
}

// P15.1: two faults don't make up for one another.
func TestRightManyFaults(t *testing.T) {
	faults := []func(*api.Config){
		func(c *api.Config) { c.Routes[0].Mtu = 67 }, func(c *api.Config) { c.Rules[0].Action = 0 }, func(c *api.Config) { c.Outside = 8 }, func(c *api.Config) { c.Lo = 0 }, func(c *api.Config) { c.Hi = 65536 },
		func(c *api.Config) { c.Tcp = 0 }, func(c *api.Config) { c.Other = 0 }, func(c *api.Config) { c.Budget = 1001 },
		func(c *api.Config) { c.Forwards[0].To = 0 }, func(c *api.Config) { c.Forwards[1].To = 0 }, func(c *api.Config) { c.Forwards[1].Proxy = true }, func(c *api.Config) { c.Forwards[1].Proto, c.Forwards[1].Port = 6, 80 }, func(c *api.Config) { c.Forwards[1].Port = 5000 },
	}
	for set := range 1 << len(faults) {
		c := plain()
		for i, change := range faults {
			if set>>i&1 == 1 {
				change(&c)
			}
		}
		// A proxy of TCP is none.
		if set == 1<<10|1<<11 || set == 1<<10|1<<11|1<<12 {
			continue
		}
		if got := Right(c); got != (set == 0) {
			t.Fatalf("%013b: %v: Right is %v", set, c, got)
		}
	}
}

// P15.1: what differs in some places isn't the same, whichever these are.
func TestSameSomePlaces(t *testing.T) {
	changes := []func(*api.Config){
		func(c *api.Config) { c.Routes[1].Mtu++ }, func(c *api.Config) { c.Rules[1].Hi++ }, func(c *api.Config) { c.Forwards[1].To++ }, func(c *api.Config) { c.Outside++ }, func(c *api.Config) { c.Public++ }, func(c *api.Config) { c.Lo++ },
		func(c *api.Config) { c.Hi++ }, func(c *api.Config) { c.Tcp++ }, func(c *api.Config) { c.Other++ }, func(c *api.Config) { c.Budget++ },
	}
	for set := range 1 << len(changes) {
		c := plain()
		for i, change := range changes {
			if set>>i&1 == 1 {
				change(&c)
			}
		}
		if Same(plain(), c) != (set == 0) || Same(c, plain()) != (set == 0) {
			t.Fatalf("%010b: %v", set, c)
		}
	}
}

// P15.1: Same looks at each number and at each list, in its order.
func TestSame(t *testing.T) {
	others := append(wrongOnes(), ofNone(), api.Config{})
	for _, change := range []func(*api.Config){
		func(c *api.Config) { c.Routes[0].Net++ }, func(c *api.Config) { c.Routes[0].Bits++ }, func(c *api.Config) { c.Routes[1].Zone++ }, func(c *api.Config) { c.Routes[1].Mtu++ },
		func(c *api.Config) { c.Routes = c.Routes[:1] }, func(c *api.Config) { c.Routes[0], c.Routes[1] = c.Routes[1], c.Routes[0] }, func(c *api.Config) { c.Routes = nil },
		func(c *api.Config) { c.Rules[0].From++ }, func(c *api.Config) { c.Rules[0].To++ }, func(c *api.Config) { c.Rules[0].Proto++ }, func(c *api.Config) { c.Rules[0].Src++ },
		func(c *api.Config) { c.Rules[1].Dst++ }, func(c *api.Config) { c.Rules[1].SrcBits++ }, func(c *api.Config) { c.Rules[1].DstBits++ }, func(c *api.Config) { c.Rules[1].Lo++ },
		func(c *api.Config) { c.Rules[1].Hi++ }, func(c *api.Config) { c.Rules[1].Action++ }, func(c *api.Config) { c.Rules = c.Rules[1:] }, func(c *api.Config) { c.Rules[0], c.Rules[1] = c.Rules[1], c.Rules[0] },
		func(c *api.Config) { c.Outside++ }, func(c *api.Config) { c.Public++ }, func(c *api.Config) { c.Lo++ }, func(c *api.Config) { c.Hi++ },
		func(c *api.Config) { c.Forwards[0].Proto++ }, func(c *api.Config) { c.Forwards[0].Port++ }, func(c *api.Config) { c.Forwards[1].Addr++ }, func(c *api.Config) { c.Forwards[1].To++ },
		func(c *api.Config) { c.Forwards[0].Proxy = false }, func(c *api.Config) { c.Forwards[1].Proxy = true }, func(c *api.Config) { c.Forwards = c.Forwards[:1] },
		func(c *api.Config) { c.Forwards[0], c.Forwards[1] = c.Forwards[1], c.Forwards[0] },
		func(c *api.Config) { c.Tcp++ }, func(c *api.Config) { c.Other++ }, func(c *api.Config) { c.Budget++ },
	} {
		c := plain()
		change(&c)
		others = append(others, c)
	}
	for i, c := range others {
		if Same(plain(), c) || Same(c, plain()) {
			t.Errorf("%d: %v isn't the same", i, c)
		}
		if d := c; !Same(c, d) {
			t.Errorf("%d: %v is the same as itself", i, c)
		}
	}
	if !Same(plain(), plain()) {
		t.Error("they are the same")
	}
}

// P15.1: a list is nil or empty alike.
func TestSameEmpty(t *testing.T) {
	c := ofNone()
	c.Routes, c.Rules, c.Forwards = []api.Route{}, []api.Rule{}, []api.Forward{}
	if !Same(c, ofNone()) || !Same(ofNone(), c) || !Same(api.Config{}, api.Config{}) {
		t.Error("they are the same")
	}
	a, e := Show(c)
	b, f := Show(ofNone())
	if e != api.OK || f != api.OK || a != b {
		t.Errorf("%q, %d, but %q, %d", a, e, b, f)
	}
}

// P15.1: the lines, in their order, each with a newline behind it.
func TestShow(t *testing.T) {
	for _, c := range []struct {
		c    api.Config
		want string
	}{
		{plain(), plainText},
		{ofNone(), "outside 0\npublic 0.0.0.0 1024 65535\nlife 1000 100\nbudget 10\n"},
		{api.Config{Outside: 7, Public: 0xffffffff, Lo: 1, Hi: 1, Tcp: 1 << 20, Other: 1, Budget: 1000}, "outside 7\npublic 255.255.255.255 1 1\nlife 1048576 1\nbudget 1000\n"},
		{api.Config{Rules: []api.Rule{{From: 7, To: -1, Proto: 255, Src: 0x01020304, SrcBits: 0, Dst: 0xfffefdfc, DstBits: 31, Lo: 65535, Hi: 65535, Action: api.Deny}}, Lo: 2, Hi: 3, Tcp: 4, Other: 5}, "rule 7 -1 255 1.2.3.4/0 255.254.253.252/31 65535 65535 deny\noutside 0\npublic 0.0.0.0 2 3\nlife 4 5\nbudget 0\n"},
	} {
		if got, e := Show(c.c); e != api.OK || got != c.want {
			t.Errorf("Show(%v) = %q, %d, want %q", c.c, got, e, c.want)
		}
	}
}

// P15.1: what may not be isn't shown.
func TestShowWrong(t *testing.T) {
	for i, c := range append(wrongOnes(), api.Config{}) {
		if s, e := Show(c); e != api.ErrArg || s != "" {
			t.Errorf("%d: Show(%v) = %q, %d", i, c, s, e)
		}
	}
}

// P15.2: each kind of line.
func TestParse(t *testing.T) {
	reads(t, plainText, plain())
	reads(t, strings.TrimSuffix(plainText, "\n"), plain())
	for _, c := range []struct {
		text   string
		change func(*api.Config)
	}{
		{"route 1.2.3.0/24 7 65535", func(c *api.Config) { c.Routes = []api.Route{{Net: 0x01020300, Bits: 24, Zone: 7, Mtu: 65535}} }},
		{"rule -1 7 255 1.2.3.4/0 5.6.7.8/32 1 2 allow", func(c *api.Config) {
			c.Rules = []api.Rule{{From: -1, To: 7, Proto: 255, Src: 0x01020304, Dst: 0x05060708, DstBits: 32, Lo: 1, Hi: 2, Action: api.Allow}}
		}},
		{"rule 0 -1 0 255.255.255.255/9 0.0.0.0/0 0 65535 deny", func(c *api.Config) {
			c.Rules = []api.Rule{{To: -1, Src: 0xffffffff, SrcBits: 9, Hi: 65535, Action: api.Deny}}
		}},
		{"outside 5", func(c *api.Config) { c.Outside = 5 }},
		{"public 1.2.3.4 5 6", func(c *api.Config) { c.Public, c.Lo, c.Hi = 0x01020304, 5, 6 }},
		{"forward 17 1023 1.2.3.4 65535", func(c *api.Config) {
			c.Forwards = []api.Forward{{Proto: 17, Port: 1023, Addr: 0x01020304, To: 65535}}
		}},
		{"forward 6 1 0.0.0.255 1 proxy", func(c *api.Config) {
			c.Forwards = []api.Forward{{Proto: 6, Port: 1, Addr: 255, To: 1, Proxy: true}}
		}},
		{"life 1 1048576", func(c *api.Config) { c.Tcp, c.Other = 1, 1<<20 }},
		{"budget 0", func(c *api.Config) { c.Budget = 0 }},
	} {
		want := ofNone()
		c.change(&want)
		blanks := "   " + strings.ReplaceAll(c.text, " ", "  ") + "  "
		for _, text := range []string{c.text, c.text + "\n", "\n" + c.text + "\n\n", blanks, "# " + c.text + "\n" + c.text} {
			reads(t, text, want)
		}
	}
}

// P15.2: routes, rules and forwards come one behind the other; of the others the last line counts.
func TestParseAgain(t *testing.T) {
	text := "budget 1\nlife 1 2\npublic 1.1.1.1 1 65535\noutside 1\nforward 17 9 0.0.0.2 2\nrule 0 0 0 0.0.0.0/0 0.0.0.0/0 0 0 deny\nroute 2.0.0.0/8 2 200\n" +
		"outside 2\nroute 1.0.0.0/8 1 100\npublic 2.2.2.2 5000 6000\nlife 3 4\nforward 6 8 0.0.0.1 1\nbudget 2\nrule 1 1 1 0.0.0.1/1 0.0.0.1/1 1 1 allow\nroute 3.0.0.0/8 3 300"
	reads(t, text, api.Config{
		Routes:  []api.Route{{Net: 2 << 24, Bits: 8, Zone: 2, Mtu: 200}, {Net: 1 << 24, Bits: 8, Zone: 1, Mtu: 100}, {Net: 3 << 24, Bits: 8, Zone: 3, Mtu: 300}},
		Rules:   []api.Rule{{Action: api.Deny}, {From: 1, To: 1, Proto: 1, Src: 1, SrcBits: 1, Dst: 1, DstBits: 1, Lo: 1, Hi: 1, Action: api.Allow}},
		Outside: 2, Public: 0x02020202, Lo: 5000, Hi: 6000,
		Forwards: []api.Forward{{Proto: 17, Port: 9, Addr: 2, To: 2}, {Proto: 6, Port: 8, Addr: 1, To: 1}},
		Tcp:      3, Other: 4, Budget: 2,
	})
	// What may not be in a line that doesn't count isn't asked.
	want := ofNone()
	want.Budget = 5
	reads(t, "budget 5000\noutside -7\nlife 0 0\npublic 0.0.0.0 9 1\nbudget 5\noutside 0\nlife 1000 100\npublic 0.0.0.0 1024 65535", want)
}

// P15.2: what says nothing.
func TestParseNothing(t *testing.T) {
	for _, text := range []string{"", "\n", "\n\n\n", " ", "   \n  ", "#", "# budget", "#budget 5", "  # x", "   ##\n#", "#\x00\xff\n#\t\r", "# " + strings.Repeat("x", 254), strings.Repeat(" ", 256), strings.Repeat(" ", 255) + "#", strings.Repeat("\n", 511), strings.Repeat("#\n", 511) + "#"} {
		reads(t, text, ofNone())
	}
}

// P15.2: a first word that is none.
func TestParseName(t *testing.T) {
	for _, word := range []string{"what", "Route", "ROUTE", "rout", "routes", "rules", "outsider", "budge", "live", "publi", "forwards", "x#", "0", "-", "/", "\t", "\x00", "\xff", "budget\t5", "\u00a0budget", "\ufeffroute", "\r", "budget#", "\\#", "allow", "deny", "proxy"} {
		fails(t, word, api.ErrName, 1)
		fails(t, word+" 1 2 3", api.ErrName, 1)
		fails(t, "\n# x\n  "+word+"\nwhat", api.ErrName, 3)
		fails(t, "budget 1\n"+word+" "+strings.Repeat("x", 200), api.ErrName, 2)
	}
}

// whole are lines with all their words.
var whole = []string{"route 10.0.0.0/8 1 1500", "rule -1 0 6 10.0.0.0/8 0.0.0.0/0 0 65535 allow", "rule 0 -1 0 0.0.0.0/0 0.0.0.0/32 0 0 deny", "outside 0", "public 1.2.3.4 1024 65535", "forward 6 80 10.0.0.5 8080 proxy", "forward 17 53 10.0.0.5 53", "life 7 8", "budget 9"}

// P15.2: a line with a word too few, too many, or of another form, isn't formed so.
func TestParseForm(t *testing.T) {
	wrong := []string{"x", "#", "-", "+", "+1", "--1", "-+1", "1-", "1.", ".1", "1.5", "1e3", "0x1", "1_0", "00", "01", "-00", "-01", "007", "١", "1\t", "\t1", "1\r", "2147483648", "-2147483649", "9223372036854775808", "18446744073709551617", "99999999999999999999999", "1,2", "1/2", "/", "Allow", "allowed", "Deny", "Proxy", "1.2.3.4.5", "1.2.3", "1.2.3.256/8", "1.2.3.-1/8", "1.2.3.04/8", "1.2.3.4/08", "1.2.3.4/", "/8", "1.2.3.4//8", "1.2.3.4/8/8", "1.2..4/8", ".1.2.3.4/8", "1.2.3.4./8", "1.2.3.4/x", "a.b.c.d/8", "1.2.3.4 /8", "1.2.3.256", "256.2.3.4", "1.2.03.4", "1..2.3", "1.2.3.", "1.2.3.4294967296", "1.2.3.+4", "1.2.3.4/+8"}
	for _, line := range whole {
		list := strings.Split(line, " ")
		for n := 1; n < len(list); n++ {
			if n == 5 && list[0] == "forward" {
				continue
			}
			fails(t, strings.Join(list[:n], " "), api.ErrForm, 1)
			fails(t, "\n#\n"+strings.Join(list[:n], "  ")+" \nwhat", api.ErrForm, 3)
		}
		for _, more := range []string{"0", "x", "#", "# x", "proxy", "allow"} {
			if list[0] == "forward" && len(list) == 5 && more == "proxy" {
				continue
			}
			fails(t, line+" "+more, api.ErrForm, 1)
		}
		for i := 1; i < len(list); i++ {
			for _, w := range wrong {
				other := append([]string{}, list...)
				other[i] = w
				fails(t, strings.Join(other, " "), api.ErrForm, 1)
			}
		}
	}
}

// P15.2: each place of a line takes what stands there, and nothing that stands elsewhere.
func TestParsePlaces(t *testing.T) {
	kinds := []struct {
		form  *regexp.Regexp
		words []string
	}{
		{regexp.MustCompile(`^-?[0-9]+$`), []string{"0", "1", "-1", "2147483647", "-2147483648"}},
		{regexp.MustCompile(`^[0-9]+\.[0-9.]+$`), []string{"0.0.0.0", "255.255.255.255"}},
		{regexp.MustCompile(`/`), []string{"0.0.0.0/0", "255.255.255.255/-1", "10.0.0.0/2147483647"}},
		{regexp.MustCompile(`^(allow|deny)$`), []string{"allow", "deny"}},
		{regexp.MustCompile(`^proxy$`), []string{"proxy"}},
	}
	for _, line := range whole {
		list := strings.Split(line, " ")
		for i := 1; i < len(list); i++ {
			for _, kind := range kinds {
				for _, word := range kind.words {
					other := append([]string{}, list...)
					other[i] = word
					_, e, at := Parse(strings.Join(other, " "))
					if kind.form.MatchString(list[i]) != (e != api.ErrForm) || e == api.ErrForm && at != 1 {
						t.Errorf("%q: error %d in line %d", strings.Join(other, " "), e, at)
					}
				}
			}
		}
	}
}

// P15.2: numbers are read to their bounds; of a minus and a nought, no nought is needless.
func TestParseNumbers(t *testing.T) {
	for _, c := range []struct {
		word string
		n    int
		ok   bool
	}{
		{"0", 0, true}, {"-0", 0, true}, {"1", 1, true}, {"-1", -1, true}, {"10", 10, true}, {"100", 100, true}, {"-10", -10, true}, {"2147483647", 1<<31 - 1, true}, {"-2147483648", -1 << 31, true},
		{"2147483648", 0, false}, {"-2147483649", 0, false}, {"4294967296", 0, false}, {"9223372036854775807", 0, false}, {"-9223372036854775808", 0, false}, {"", 0, false}, {"-", 0, false}, {"00", 0, false}, {"-00", 0, false}, {"+0", 0, false}, {"- 1", 0, false}, {"1 ", 0, false}, {"0_1", 0, false}, {"0b1", 0, false}, {"0o7", 0, false}, {"inf", 0, false},
	} {
		if n, ok := numberOf(c.word); n != c.n || ok != c.ok {
			t.Errorf("numberOf(%q) = %d, %v", c.word, n, ok)
		}
	}
	want := ofNone()
	want.Budget = 0
	reads(t, "outside -0\nbudget -0", want)
}

// P15.2: addresses are read byte by byte, the first the highest.
func TestParseAddresses(t *testing.T) {
	for _, c := range []struct {
		word string
		addr uint32
		ok   bool
	}{
		{"0.0.0.0", 0, true}, {"1.2.3.4", 0x01020304, true}, {"255.254.253.252", 0xfffefdfc, true}, {"255.0.0.0", 0xff000000, true}, {"0.255.0.0", 0xff0000, true}, {"0.0.255.0", 0xff00, true}, {"0.0.0.255", 0xff, true},
		{"256.0.0.0", 0, false}, {"0.256.0.0", 0, false}, {"0.0.256.0", 0, false}, {"0.0.0.256", 0, false}, {"-1.0.0.0", 0, false}, {"0.0.0.-1", 0, false}, {"", 0, false}, {"...", 0, false}, {"1.2.3", 0, false}, {"1.2.3.4.5", 0, false}, {"1.2.3.", 0, false}, {".1.2.3", 0, false}, {"01.2.3.4", 0, false}, {"1.2.3.00", 0, false}, {"1.2.3.4/8", 0, false},
	} {
		if a, ok := addressOf(c.word); a != c.addr || ok != c.ok {
			t.Errorf("addressOf(%q) = %x, %v", c.word, a, ok)
		}
	}
}

// P15.2: a line may have so many bytes, the newline not among them; the length is asked first.
func TestParseLongLine(t *testing.T) {
	for _, line := range append([]string{"", "#", "what", "budget", "outside x"}, whole...) {
		for _, long := range []string{line + strings.Repeat(" ", 257-len(line)), strings.Repeat(" ", 257-len(line)) + line, line + strings.Repeat("#", 1000), strings.Repeat("\xff", 257)} {
			fails(t, long, api.ErrLong, 1)
			fails(t, long+"\n", api.ErrLong, 1)
			fails(t, "\n"+long+"\nwhat", api.ErrLong, 2)
		}
	}
	for _, line := range whole {
		fit := line + strings.Repeat(" ", 256-len(line))
		a, e, _ := Parse(line)
		b, f, _ := Parse(fit + "\n" + "# " + strings.Repeat("#", 254))
		if e != api.OK || f != api.OK || !sameAll(a, b) {
			t.Errorf("%q: %v, %d; with blanks %v, %d", line, a, e, b, f)
		}
	}
	// Bytes count, not runes.
	fails(t, "#"+strings.Repeat("é", 128), api.ErrLong, 1)
	reads(t, "##"+strings.Repeat("é", 127), ofNone())
	fails(t, "what "+strings.Repeat("x", 251), api.ErrName, 1)
	fails(t, "budget "+strings.Repeat("1", 249), api.ErrForm, 1)
	fails(t, strings.Repeat("x", 1<<20), api.ErrLong, 1)
}

// P15.2: a text may have so many lines, whatever they say; an error ahead comes first.
func TestParseManyLines(t *testing.T) {
	want := ofNone()
	want.Budget = 7
	for _, line := range []string{"", "#", "budget 7", "  "} {
		fails(t, strings.Repeat(line+"\n", 512), api.ErrLong, 513)
		fails(t, strings.Repeat(line+"\n", 512)+"what", api.ErrLong, 513)
		fails(t, strings.Repeat(line+"\n", 512)+"budget", api.ErrLong, 513)
		fails(t, strings.Repeat(line+"\n", 5000), api.ErrLong, 513)
		fails(t, strings.Repeat(line+"\n", 511)+"what\n", api.ErrName, 512)
		fails(t, strings.Repeat(line+"\n", 511)+"budget\n", api.ErrForm, 512)
		fails(t, "what"+strings.Repeat(line+"\n", 1000), api.ErrName, 1)
		reads(t, strings.Repeat(line+"\n", 511)+"budget 7", want)
	}
	fails(t, strings.Repeat("route 1.2.3.4/8 1 1500\n", 511), api.ErrArg, 0)
}

// P15.2: the first error, line by line; only behind all lines, whether it may be.
func TestParseFirst(t *testing.T) {
	fails(t, "budget -5\nwhat\nbudget", api.ErrName, 2)
	fails(t, "budget -5\nbudget\nwhat", api.ErrForm, 2)
	fails(t, "budget\n"+strings.Repeat(" ", 257), api.ErrForm, 1)
	fails(t, "what\n"+strings.Repeat(" ", 257), api.ErrName, 1)
	fails(t, strings.Repeat(" ", 257)+"\nwhat", api.ErrLong, 1)
	fails(t, "route 1.2.3.4/8 1 1500\n#\nbudget 01", api.ErrForm, 3)
	fails(t, "budget -5\nbudget 5 5", api.ErrForm, 2)
	fails(t, "budget -5\n\n\n", api.ErrArg, 0)
}

// P15.2: what is formed so but may not be.
func TestParseArg(t *testing.T) {
	for _, text := range []string{
		"route 10.0.0.1/8 1 1500", "route 10.0.0.0/33 1 1500", "route 10.0.0.0/-1 1 1500", "route 10.0.0.0/8 8 1500", "route 10.0.0.0/8 -1 1500", "route 10.0.0.0/8 1 67", "route 10.0.0.0/8 1 65536", "route 10.0.0.0/8 1 100\nroute 10.0.0.0/8 2 200",
		"rule -2 0 0 0.0.0.0/0 0.0.0.0/0 0 0 allow", "rule 0 8 0 0.0.0.0/0 0.0.0.0/0 0 0 allow", "rule 0 0 256 0.0.0.0/0 0.0.0.0/0 0 0 allow", "rule 0 0 0 0.0.0.0/33 0.0.0.0/0 0 0 allow", "rule 0 0 0 0.0.0.0/0 0.0.0.0/-1 0 0 allow", "rule 0 0 0 0.0.0.0/0 0.0.0.0/0 2 1 deny", "rule 0 0 0 0.0.0.0/0 0.0.0.0/0 0 65536 deny",
		"outside 8", "outside -1", "public 1.2.3.4 0 5", "public 1.2.3.4 6 5", "public 1.2.3.4 5 65536", "life 0 1", "life 1 0", "life 1048577 1", "life 1 1048577", "budget -1", "budget 1001", "budget 2147483647", "budget -2147483648",
		"forward 1 80 1.2.3.4 80", "forward 17 53 1.2.3.4 53 proxy", "forward 6 0 1.2.3.4 80", "forward 6 80 1.2.3.4 0", "forward 6 80 1.2.3.4 65536", "forward 6 1024 1.2.3.4 80", "forward 6 65535 1.2.3.4 80", "forward 6 80 1.2.3.4 1\nforward 6 80 1.2.3.5 2",
		strings.Repeat("rule 0 0 0 0.0.0.0/0 0.0.0.0/0 0 0 deny\n", 65),
	} {
		fails(t, text, api.ErrArg, 0)
	}
}

// modelNumber is a number's form, without what it must be.
var modelNumber = regexp.MustCompile(`^-?(0|[1-9][0-9]*)$`)

// modelInt is what a word is as a number.
func modelInt(word string) (int, bool) {
	if !modelNumber.MatchString(word) {
		return 0, false
	}
	n, _ := new(big.Int).SetString(word, 10)
	if n.Cmp(big.NewInt(math.MinInt32)) < 0 || n.Cmp(big.NewInt(math.MaxInt32)) > 0 {
		return 0, false
	}
	return int(n.Int64()), true
}

// modelForms has what stands behind each first word: # a number, @ an address, with /# how many bits.
var modelForms = map[string][]string{
	"route": {"@/# # #"}, "rule": {"# # # @/# @/# # # allow", "# # # @/# @/# # # deny"}, "outside": {"#"}, "public": {"@ # #"},
	"forward": {"# # @ #", "# # @ # proxy"}, "life": {"# #"}, "budget": {"#"},
}

// modelWord takes the numbers of a word, if it has the form.
func modelWord(form, word string) ([]int, bool) {
	pieces := []string{word}
	switch form {
	case "#":
	case "@":
		pieces = strings.Split(word, ".")
	case "@/#":
		if strings.Count(word, "/") != 1 {
			return nil, false
		}
		at := strings.IndexByte(word, '/')
		pieces = append(strings.Split(word[:at], "."), word[at+1:])
	default:
		return nil, form == word
	}
	if len(pieces) != map[string]int{"#": 1, "@": 4, "@/#": 5}[form] {
		return nil, false
	}
	var list []int
	for i, p := range pieces {
		n, ok := modelInt(p)
		if !ok || form != "#" && i < 4 && (n < 0 || n > 255) {
			return nil, false
		}
		list = append(list, n)
	}
	if form != "#" {
		list = append([]int{list[0]<<24 | list[1]<<16 | list[2]<<8 | list[3]}, list[4:]...)
	}
	return list, true
}

// modelLine takes the numbers of a line, and which form it has.
func modelLine(forms, line []string) ([]int, int, bool) {
	for which, form := range forms {
		parts := strings.Split(form, " ")
		if len(parts) != len(line) {
			continue
		}
		var list []int
		fit := true
		for i, part := range parts {
			more, ok := modelWord(part, line[i])
			list, fit = append(list, more...), fit && ok
		}
		if fit {
			return list, which, true
		}
	}
	return nil, 0, false
}

// modelTake puts a line's numbers into a configuration.
func modelTake(c *api.Config, word string, n []int, which int) {
	switch word {
	case "route":
		c.Routes = append(c.Routes, api.Route{Net: uint32(n[0]), Bits: n[1], Zone: n[2], Mtu: n[3]})
	case "rule":
		c.Rules = append(c.Rules, api.Rule{From: n[0], To: n[1], Proto: n[2], Src: uint32(n[3]), SrcBits: n[4], Dst: uint32(n[5]), DstBits: n[6], Lo: n[7], Hi: n[8], Action: []int{api.Allow, api.Deny}[which]})
	case "outside":
		c.Outside = n[0]
	case "public":
		c.Public, c.Lo, c.Hi = uint32(n[0]), n[1], n[2]
	case "forward":
		c.Forwards = append(c.Forwards, api.Forward{Proto: n[0], Port: n[1], Addr: uint32(n[2]), To: n[3], Proxy: which == 1})
	case "life":
		c.Tcp, c.Other = n[0], n[1]
	case "budget":
		c.Budget = n[0]
	}
}

// modelRight is what Right has to answer, by what is wrong.
func modelRight(c api.Config) bool {
	faults := 0
	count := func(bad bool) {
		if bad {
			faults++
		}
	}
	count(!route.Right(c.Routes) || !rules.Right(c.Rules))
	count(c.Outside < 0 || c.Outside > 7 || c.Lo < 1 || c.Lo > c.Hi || c.Hi > 65535)
	count(c.Tcp < 1 || c.Tcp > 1048576 || c.Other < 1 || c.Other > 1048576 || c.Budget < 0 || c.Budget > 1000)
	count(len(c.Forwards) > 32)
	seen := map[[2]int]bool{}
	for _, f := range c.Forwards {
		count(f.Proto != 6 && f.Proto != 17 || f.Proxy && f.Proto != 6 || seen[[2]int{f.Proto, f.Port}])
		count(f.Port < 1 || f.Port > 65535 || f.To < 1 || f.To > 65535 || c.Lo <= f.Port && f.Port <= c.Hi)
		seen[[2]int{f.Proto, f.Port}] = true
	}
	return faults == 0
}

// modelParse is what Parse has to answer.
func modelParse(text string) (api.Config, api.Errno, int) {
	c := ofNone()
	for i, line := range strings.Split(text, "\n") {
		if i == 512 || len(line) > 256 {
			return api.Config{}, api.ErrLong, i + 1
		}
		list := regexp.MustCompile(`[^ ]+`).FindAllString(line, -1)
		if len(list) == 0 || list[0][0] == '#' {
			continue
		}
		forms := modelForms[list[0]]
		if forms == nil {
			return api.Config{}, api.ErrName, i + 1
		}
		n, which, ok := modelLine(forms, list[1:])
		if !ok {
			return api.Config{}, api.ErrForm, i + 1
		}
		modelTake(&c, list[0], n, which)
	}
	if !modelRight(c) {
		return api.Config{}, api.ErrArg, 0
	}
	return c, api.OK, 0
}

// randomWord is a word that stands somewhere, or nowhere.
func randomWord(r *rand.Rand) string {
	words := []string{"0", "1", "-1", "6", "17", "80", "2000", "65535", "-0", "01", "1.2.3.4", "10.0.0.0", "10.0.0.0/8", "0.0.0.0/0", "1.2.3.4/32", "allow", "deny", "proxy", "x", "#", "1.2.3/8", "2147483648", "route", "+1", "1.2.3.4/-0"}
	return words[r.Intn(len(words))]
}

// randomLine is a line that is often formed as it has to be.
func randomLine(r *rand.Rand) string {
	nets := []string{"0.0.0.0/0", "10.0.0.0/8", "10.1.0.0/16", "1.2.3.4/32", "-0.0.0.0/0"}
	net := func() string { return nets[r.Intn(len(nets))] }
	lines := []string{
		fmt.Sprintf("route %s %d %d", net(), r.Intn(8), 68+r.Intn(1500)),
		fmt.Sprintf("rule %d %d %d %s %s %d %d %s", r.Intn(9)-1, r.Intn(9)-1, r.Intn(256), net(), net(), r.Intn(100), 100+r.Intn(100), []string{"allow", "deny"}[r.Intn(2)]),
		fmt.Sprintf("outside %d", r.Intn(8)), fmt.Sprintf("public 1.2.3.4 %d %d", 1000+r.Intn(1000), 2000+r.Intn(1000)),
		fmt.Sprintf("forward %d %d 10.0.0.%d %d%s", []int{6, 17}[r.Intn(2)], 1+r.Intn(1100), r.Intn(256), 1+r.Intn(65535), []string{"", " proxy"}[r.Intn(8)/7]),
		fmt.Sprintf("life %d %d", 1+r.Intn(2000), 1+r.Intn(2000)), fmt.Sprintf("budget %d", r.Intn(1001)), "# x", "",
	}
	list := strings.Split(lines[r.Intn(len(lines))], " ")
	if r.Intn(30) == 0 {
		list[r.Intn(len(list))] = randomWord(r)
	}
	if r.Intn(60) == 0 {
		list = append(list, randomWord(r))
	}
	line := strings.Join(list, strings.Repeat(" ", 1+r.Intn(3)))
	if r.Intn(80) == 0 {
		line += strings.Repeat(" ", 240)
	}
	return line
}

// P15.1, P15.2: what a slow model reads of many texts.
func TestModel(t *testing.T) {
	r := rand.New(rand.NewSource(3))
	seen := map[api.Errno]int{}
	for range 20000 {
		var list []string
		for range r.Intn(10) {
			list = append(list, randomLine(r))
		}
		text := strings.Join(list, "\n")
		want, e, at := modelParse(text)
		seen[e]++
		got, f, line := Parse(text)
		if e != f || at != line || !sameAll(got, want) {
			t.Fatalf("Parse(%q) = %v, %d, %d; want %v, %d, %d", text, got, f, line, want, e, at)
		}
		if e == api.OK {
			roundTrip(t, got)
		}
	}
	for _, e := range []api.Errno{api.OK, api.ErrArg, api.ErrLong, api.ErrName, api.ErrForm} {
		if seen[e] < 200 {
			t.Errorf("error %d came only %d times", e, seen[e])
		}
	}
}

// P15.1: what the model says of configurations that are changed at random.
func TestModelRight(t *testing.T) {
	r := rand.New(rand.NewSource(4))
	seen := map[bool]int{}
	for range 20000 {
		c := plain()
		for range 1 + r.Intn(2) {
			n := numbers[r.Intn(len(numbers))]
			f := &c.Forwards[r.Intn(2)]
			*[]*int{&c.Outside, &c.Lo, &c.Hi, &c.Tcp, &c.Other, &c.Budget, &f.Proto, &f.Port, &f.To}[r.Intn(9)] = n
			f.Proxy = r.Intn(2) == 0
		}
		want := modelRight(c)
		seen[want]++
		if Right(c) != want {
			t.Fatalf("Right(%v) is %v", c, !want)
		}
		if _, e := Show(c); (e == api.OK) != want {
			t.Fatalf("Show(%v): error %d", c, e)
		}
	}
	if seen[true] < 500 || seen[false] < 500 {
		t.Error(seen)
	}
}

// roundTrip fails if a configuration that is shown isn't read as it was.
func roundTrip(t *testing.T, c api.Config) {
	t.Helper()
	text, e := Show(c)
	if e != api.OK {
		t.Fatalf("Show(%v): error %d", c, e)
	}
	got, e, at := Parse(text)
	if e != api.OK || at != 0 || !Same(got, c) || !sameAll(got, c) {
		t.Fatalf("%q is read as %v, %d, %d; want %v", text, got, e, at, c)
	}
	if again, e := Show(got); e != api.OK || again != text {
		t.Fatalf("%q is shown as %q, %d", text, again, e)
	}
}

// P15.3: what is shown is read as it was.
func TestShownIsRead(t *testing.T) {
	roundTrip(t, plain())
	roundTrip(t, ofNone())
	r := rand.New(rand.NewSource(5))
	for range 2000 {
		roundTrip(t, randomConfig(r))
	}
}

// P15.3: the longest configuration that may be is still read.
func TestLongest(t *testing.T) {
	c := api.Config{Outside: 7, Public: 0xffffffff, Lo: 65000, Hi: 65535, Tcp: 1 << 20, Other: 1 << 20, Budget: 1000}
	for i := range 64 {
		c.Routes = append(c.Routes, api.Route{Net: 0xffffff00 | uint32(i), Bits: 32, Zone: 7, Mtu: 65535})
		c.Rules = append(c.Rules, api.Rule{From: -1, To: -1, Proto: 255, Src: 0xffffffff, Dst: 0xffffffff, SrcBits: 32, DstBits: 32, Lo: 65535, Hi: 65535, Action: api.Allow})
	}
	for i := range 32 {
		c.Forwards = append(c.Forwards, api.Forward{Proto: 6, Port: 64000 + i, Addr: 0xffffffff, To: 65535, Proxy: true})
	}
	roundTrip(t, c)
}

// P15.3: what is read is shown in one form, however it was written.
func TestOneForm(t *testing.T) {
	list := strings.Split(strings.TrimSuffix(plainText, "\n"), "\n")
	r := rand.New(rand.NewSource(6))
	for range 500 {
		// Lines of one kind stay in their order; those of others may stand anywhere.
		var text strings.Builder
		queues := map[string][]string{}
		var order []string
		for _, line := range list {
			word, _, _ := strings.Cut(line, " ")
			queues[word] = append(queues[word], line)
			order = append(order, word)
		}
		r.Shuffle(len(order), func(i, j int) { order[i], order[j] = order[j], order[i] })
		for _, word := range order {
			line := queues[word][0]
			queues[word] = queues[word][1:]
			if r.Intn(3) == 0 {
				text.WriteString("  # what stands here says nothing\n")
			}
			text.WriteString(strings.Repeat(" ", r.Intn(3)) + strings.ReplaceAll(line, " ", strings.Repeat(" ", 1+r.Intn(3))) + strings.Repeat(" ", r.Intn(2)) + "\n")
		}
		c, e, _ := Parse(text.String())
		if e != api.OK {
			t.Fatalf("%q: %d", text.String(), e)
		}
		if s, e := Show(c); e != api.OK || s != plainText {
			t.Fatalf("%q is shown as %q, %d", text.String(), s, e)
		}
	}
}

// What is handed in isn't changed, its spare room neither, and an answer is new memory.
func TestOwnMemory(t *testing.T) {
	c, before := plain(), plain()
	c.Routes = append(make([]api.Route, 0, 9), c.Routes...)
	c.Rules = append(make([]api.Rule, 0, 9), c.Rules...)
	c.Forwards = append(make([]api.Forward, 0, 9), c.Forwards...)
	Right(c)
	Show(c)
	Same(c, before)
	Same(before, c)
	if !reflect.DeepEqual(c, before) || c.Routes[:3][2] != (api.Route{}) || c.Rules[:3][2] != (api.Rule{}) || c.Forwards[:3][2] != (api.Forward{}) {
		t.Error("it was changed", c)
	}
	a, _, _ := Parse(plainText)
	b, _, _ := Parse(plainText)
	a.Routes[0], a.Rules[0], a.Forwards[0] = api.Route{}, api.Rule{}, api.Forward{}
	a.Routes = append(a.Routes, api.Route{Zone: 5})
	if !sameAll(b, plain()) {
		t.Error("two answers share their memory", b)
	}
	reads(t, plainText, plain())
	reads(t, "", ofNone())
}

// The same again gives the same.
func TestOnceMore(t *testing.T) {
	for _, text := range []string{plainText, "", "what", "budget", "budget -1"} {
		c, e, at := Parse(text)
		for range 20 {
			d, f, line := Parse(text)
			if e != f || at != line || !sameAll(c, d) {
				t.Fatalf("%q: %v, %d, %d, and then %v, %d, %d", text, c, e, at, d, f, line)
			}
		}
	}
}

// Whatever text comes, Parse ends, and says what the model says.
func TestAnyBytes(t *testing.T) {
	r := rand.New(rand.NewSource(7))
	few := "budget outs#\n\n  019-./\t\r\x00\xff"
	for range 5000 {
		b := make([]byte, r.Intn(60))
		for i := range b {
			b[i] = few[r.Intn(len(few))]
		}
		text := string(b)
		want, e, at := modelParse(text)
		got, f, line := Parse(text)
		if e != f || at != line || !sameAll(got, want) {
			t.Fatalf("Parse(%q) = %v, %d, %d; want %v, %d, %d", text, got, f, line, want, e, at)
		}
	}
}
