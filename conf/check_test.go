package conf

import (
	"math"
	"slices"
	"strings"
	"testing"

	"culvert/addr"
	"culvert/api"
)

func address(t testing.TB, s string) api.Addr {
	t.Helper()
	a, e := addr.Parse(s)
	if e != api.OK {
		t.Fatalf("%s is no address", s)
	}
	return a
}

func prefix(t testing.TB, s string) api.Prefix {
	t.Helper()
	p, e := addr.ParsePrefix(s)
	if e != api.OK {
		t.Fatalf("%s is no prefix", s)
	}
	return p
}

func pair(t testing.TB, s string) api.Pair {
	t.Helper()
	p, e := addr.ParsePair(s)
	if e != api.OK {
		t.Fatalf("%s is no pair", s)
	}
	return p
}

// sample is a configuration that may be, with two of each.
func sample(t testing.TB) api.Config {
	t.Helper()
	return api.Config{
		Id: api.RouterId{0, 1, 2, 3, 4, 5, 6, 255},
		Ifs: []api.IfConf{
			{Name: "e0", Kind: api.Wired, Cost: 96, Hello: 4000, Update: 16000, Mtu: 1280, Addr: address(t, "fe80::1")},
			{Name: "w.0_A-z", Kind: api.Wireless, Cost: 300, Hello: 2000, Update: 8000, Mtu: 500, Addr: address(t, "fe80::a:2"), Addr4: address(t, "10.0.0.1"), Rtt: api.Rtt{On: true, Min: 10, Max: 20, Cost: 30, Decay: 40}},
		},
		Rules: []api.Rule{
			{Chain: api.ChainIn, If: "e0", Dst: prefix(t, "10.0.0.0/8"), HasDst: true, Ge: 8, Le: 24, Deny: true},
			{Chain: api.ChainInstall, Src: prefix(t, "2001:db8::/32"), HasSrc: true, Id: api.RouterId{1}, Add: 7},
		},
		Locals: []api.Local{
			{Pair: pair(t, "2001:db8::/32"), Metric: 5},
			{Pair: pair(t, "::/0 from 2001:db8::/32"), Metric: 0},
		},
		Neighbours: 1, Sources: 2, Routes: 3, Requests: 4096,
	}
}

// fault is something that is done to a configuration, and what Check tells of it then.
type fault struct {
	what string
	do   func(c *api.Config)
	want api.Errno
}

func checkFaults(t *testing.T, l []fault) {
	t.Helper()
	for _, f := range l {
		c := sample(t)
		f.do(&c)
		if e := Check(c); e != f.want {
			t.Errorf("%s: Check = %d, want %d", f.what, e, f.want)
		}
		if text := Print(c); (text == "") != (f.want != api.OK) { // P9.5
			t.Errorf("%s: Print = %q", f.what, text)
		}
	}
}

func TestCheckTakesWhatMayBe(t *testing.T) { // P9.2
	checkFaults(t, []fault{
		{"as it is", func(c *api.Config) {}, api.OK},
		{"no rules", func(c *api.Config) { c.Rules = nil }, api.OK},
		{"no locals", func(c *api.Config) { c.Locals = []api.Local{} }, api.OK},
		{"one interface", func(c *api.Config) { c.Ifs = c.Ifs[1:] }, api.OK},
	})
}

func TestCheckId(t *testing.T) { // P9.2
	for _, b := range []byte{0, 1, 254, 255} {
		c := sample(t)
		for i := range c.Id {
			c.Id[i] = b
		}
		want := api.OK
		if b == 0 || b == 255 {
			want = api.ErrValue
		}
		if e := Check(c); e != want {
			t.Errorf("Id %v: Check = %d, want %d", c.Id, e, want)
		}
		for i := range c.Id { // one byte that is not as the others makes it another id
			d := c
			d.Id[i] ^= 1
			if e := Check(d); e != api.OK {
				t.Errorf("Id %v: Check = %d", d.Id, e)
			}
		}
	}
}

func TestNames(t *testing.T) { // P9.1
	c := sample(t)
	c.Ifs = c.Ifs[1:]
	right := func(s string, want bool) {
		t.Helper()
		c.Ifs[0].Name = s
		if e := Check(c); (e == api.OK) != want || !want && e != api.ErrValue {
			t.Errorf("Name %q: Check = %d", s, e)
		}
		if e := CheckRule(api.Rule{If: s}); (e == api.OK) != (want || s == "") || e != api.OK && e != api.ErrValue {
			t.Errorf("If %q: CheckRule = %d", s, e)
		}
	}
	for _, s := range []string{"a", "z", "A", "Z", "0", "9", ".", "_", "-", "..", "e0", "eth0.100", "123456789012345", "wlan-_.ABCxyz09"} {
		right(s, true)
	}
	for _, s := range []string{"", "1234567890123456", strings.Repeat("a", 100000), "a b", "e0 ", " e0", "e\x00", "ä", "\xff", "e/0", "e:0", "#", "\"", "e0\n"} {
		right(s, false)
	}
	for b := range 256 {
		s := string([]byte{byte(b)})
		want := strings.Contains("abcdefghijklmnopqrstuvwxyzABCDEFGHIJKLMNOPQRSTUVWXYZ0123456789._-", s)
		right(s, want)
		right("a"+s, want)
		right(s+"a", want)
		right("1234567"+s+"1234567", want)
	}
}

// numberEdges tries a number at its least and most, and one beyond.
func numberEdges(t *testing.T, what string, least, most int, of func(c *api.Config) *int) {
	t.Helper()
	for _, n := range []int{least, least + 10, most - 10, most, least - 10, most + 10, least - 1, most + 1, 0, -1, math.MaxInt, math.MinInt, math.MinInt + 8} {
		c := sample(t)
		*of(&c) = n
		want := api.OK
		if n < least || n > most {
			want = api.ErrValue
		}
		if e := Check(c); e != want {
			t.Errorf("%s %d: Check = %d, want %d", what, n, e, want)
		}
	}
}

func TestCheckNumbers(t *testing.T) { // P9.2
	numberEdges(t, "Kind", 0, 1, func(c *api.Config) *int { return &c.Ifs[1].Kind })
	numberEdges(t, "Cost", 1, 65534, func(c *api.Config) *int { return &c.Ifs[1].Cost })
	numberEdges(t, "Hello", 10, 655350, func(c *api.Config) *int { return &c.Ifs[1].Hello })
	numberEdges(t, "Update", 10, 655350, func(c *api.Config) *int { return &c.Ifs[1].Update })
	numberEdges(t, "Mtu", 64, 65539, func(c *api.Config) *int { return &c.Ifs[1].Mtu })
	numberEdges(t, "Rtt.Cost", 1, 65534, func(c *api.Config) *int { return &c.Ifs[1].Rtt.Cost })
	numberEdges(t, "Rtt.Decay", 1, 256, func(c *api.Config) *int { return &c.Ifs[1].Rtt.Decay })
	numberEdges(t, "Rtt.Min", 0, 19, func(c *api.Config) *int { return &c.Ifs[1].Rtt.Min })
	numberEdges(t, "Rtt.Max", 11, 1000000, func(c *api.Config) *int { return &c.Ifs[1].Rtt.Max })
	numberEdges(t, "Metric", 0, 65534, func(c *api.Config) *int { return &c.Locals[1].Metric })
	numberEdges(t, "Neighbours", 1, 4096, func(c *api.Config) *int { return &c.Neighbours })
	numberEdges(t, "Sources", 1, 4096, func(c *api.Config) *int { return &c.Sources })
	numberEdges(t, "Routes", 1, 4096, func(c *api.Config) *int { return &c.Routes })
	numberEdges(t, "Requests", 1, 4096, func(c *api.Config) *int { return &c.Requests })
	numberEdges(t, "Add", 0, 65535, func(c *api.Config) *int { return &c.Rules[1].Add })
	numberEdges(t, "Ge", 8, 24, func(c *api.Config) *int { return &c.Rules[0].Ge })
	numberEdges(t, "Le", 8, 32, func(c *api.Config) *int { return &c.Rules[0].Le })
}

func TestCheckGapsAreMultiplesOfTen(t *testing.T) { // P9.2
	for n := 10; n <= 120; n++ {
		for i := range 2 {
			c := sample(t)
			*[]*int{&c.Ifs[0].Hello, &c.Ifs[0].Update}[i] = n
			want := api.OK
			if n%10 != 0 {
				want = api.ErrValue
			}
			if e := Check(c); e != want {
				t.Errorf("gap %d: Check = %d, want %d", n, e, want)
			}
		}
	}
	checkFaults(t, []fault{
		{"Hello 655349", func(c *api.Config) { c.Ifs[0].Hello = 655349 }, api.ErrValue},
		{"Update 655345", func(c *api.Config) { c.Ifs[0].Update = 655345 }, api.ErrValue},
	})
}

func TestCheckAddresses(t *testing.T) { // P9.2
	for _, s := range []string{"fe80::", "fe80::1", "fe80::ffff:ffff:ffff:ffff", "fe80:0:0:0:8000::"} {
		c := sample(t)
		c.Ifs[0].Addr = address(t, s)
		if e := Check(c); e != api.OK {
			t.Errorf("Addr %s: Check = %d", s, e)
		}
	}
	for _, s := range []string{"::", "::1", "10.0.0.1", "2001:db8::1", "fe81::1", "fe00::1", "fc80::1", "ff80::1", "7e80::1", "fe80:1::1", "fe80:0:1::1", "fe80:0:0:1::1", "fe80:8000::1", "fe80:0:0:8000::1", "ff02::1:6"} {
		c := sample(t)
		c.Ifs[0].Addr = address(t, s)
		if e := Check(c); e != api.ErrValue {
			t.Errorf("Addr %s: Check = %d", s, e)
		}
	}
	for s, want := range map[string]api.Errno{"::": 0, "0.0.0.0": 0, "10.0.0.1": 0, "255.255.255.255": 0, "::ffff:1:2": 0, "::1": api.ErrValue, "fe80::1": api.ErrValue, "::fffe:a00:1": api.ErrValue} {
		c := sample(t)
		c.Ifs[0].Addr4 = address(t, s)
		if e := Check(c); e != want {
			t.Errorf("Addr4 %s: Check = %d, want %d", s, e, want)
		}
	}
}

func TestCheckRtt(t *testing.T) { // P9.2
	for _, c := range []struct {
		r    api.Rtt
		want api.Errno
	}{
		{api.Rtt{}, api.OK},
		{api.Rtt{Min: 1}, api.ErrValue},
		{api.Rtt{Max: 1}, api.ErrValue},
		{api.Rtt{Cost: 1}, api.ErrValue},
		{api.Rtt{Decay: 1}, api.ErrValue},
		{api.Rtt{Min: 10, Max: 20, Cost: 30, Decay: 40}, api.ErrValue},
		{api.Rtt{On: true}, api.ErrValue},
		{api.Rtt{On: true, Min: 0, Max: 1, Cost: 1, Decay: 1}, api.OK},
		{api.Rtt{On: true, Min: 999999, Max: 1000000, Cost: 65534, Decay: 256}, api.OK},
		{api.Rtt{On: true, Min: 1000000, Max: 1000000, Cost: 1, Decay: 1}, api.ErrValue},
		{api.Rtt{On: true, Min: 1000000, Max: 1000001, Cost: 1, Decay: 1}, api.ErrValue},
		{api.Rtt{On: true, Min: 1000001, Max: 1000002, Cost: 1, Decay: 1}, api.ErrValue},
		{api.Rtt{On: true, Min: 5, Max: 5, Cost: 1, Decay: 1}, api.ErrValue},
		{api.Rtt{On: true, Min: 5, Max: 4, Cost: 1, Decay: 1}, api.ErrValue},
		{api.Rtt{On: true, Min: -1, Max: 4, Cost: 1, Decay: 1}, api.ErrValue},
		{api.Rtt{On: true, Min: math.MinInt, Max: math.MaxInt, Cost: 1, Decay: 1}, api.ErrValue},
	} {
		d := sample(t)
		d.Ifs[0].Rtt = c.r
		if e := Check(d); e != c.want {
			t.Errorf("Rtt %v: Check = %d, want %d", c.r, e, c.want)
		}
	}
}

// fill makes as many interfaces, rules and locals as are asked for, each unlike the others.
func fill(t *testing.T, ifs, rules, locals int) api.Config {
	t.Helper()
	c := sample(t)
	f, a := c.Ifs[0], c.Locals[0]
	c.Ifs, c.Rules, c.Locals = nil, nil, nil
	for i := range ifs {
		f.Name = "e" + strings.Repeat("x", i%8) + string(rune('a'+i/8))
		c.Ifs = append(c.Ifs, f)
	}
	for range rules { // rules may be alike
		c.Rules = append(c.Rules, api.Rule{})
	}
	for i := range locals {
		a.Pair.Dst.A[2], a.Pair.Dst.A[3] = byte(i>>8), byte(i)
		c.Locals = append(c.Locals, a)
	}
	return c
}

func TestCheckHowMany(t *testing.T) { // P9.2
	for _, c := range []struct {
		ifs, rules, locals int
		want               api.Errno
	}{
		{1, 0, 0, api.OK},
		{16, 256, 256, api.OK},
		{0, 0, 0, api.ErrWithout},
		{0, 256, 256, api.ErrWithout},
		{17, 0, 0, api.ErrMany},
		{1, 257, 0, api.ErrMany},
		{1, 0, 257, api.ErrMany},
		{17, 257, 257, api.ErrMany},
		{0, 257, 257, api.ErrWithout},
		{2, 1000, 1000, api.ErrMany},
	} {
		if e := Check(fill(t, c.ifs, c.rules, c.locals)); e != c.want {
			t.Errorf("%v: Check = %d", c, e)
		}
	}
}

func TestCheckWhatIsSaidTwice(t *testing.T) { // P9.2
	checkFaults(t, []fault{
		{"a name again", func(c *api.Config) { c.Ifs[1].Name = c.Ifs[0].Name }, api.ErrTwice},
		{"a name again, but for a letter's size", func(c *api.Config) { c.Ifs[1].Name = "E0" }, api.OK},
		{"all of an interface but its name", func(c *api.Config) { c.Ifs[1] = c.Ifs[0]; c.Ifs[1].Name = "e1" }, api.OK},
		{"a name that the one before the last has", func(c *api.Config) { c.Ifs = append(c.Ifs, c.Ifs[0]) }, api.ErrTwice},
		{"a rule again", func(c *api.Config) { c.Rules = append(c.Rules, c.Rules[0]) }, api.OK},
		{"a pair again", func(c *api.Config) { c.Locals = append(c.Locals, api.Local{Pair: c.Locals[0].Pair, Metric: 6}) }, api.ErrTwice},
		{"a metric again", func(c *api.Config) { c.Locals[1].Metric = c.Locals[0].Metric }, api.OK},
		{"a Dst again, from elsewhere", func(c *api.Config) {
			c.Locals = append(c.Locals, api.Local{Pair: api.Pair{Dst: c.Locals[0].Pair.Dst, Src: c.Locals[1].Pair.Src}})
		}, api.OK},
	})
}

func TestCheckPairs(t *testing.T) { // P9.2
	v4, v6 := addr.Any(api.V4), addr.Any(api.V6)
	for _, c := range []struct {
		p    api.Pair
		want api.Errno
	}{
		{api.Pair{}, api.OK},
		{api.Pair{Dst: v4, Src: v4}, api.OK},
		{api.Pair{Dst: v6, Src: v6}, api.OK},
		{api.Pair{Dst: v4, Src: v6}, api.ErrValue},
		{api.Pair{Dst: v6, Src: v4}, api.ErrValue},
		{api.Pair{Dst: api.Prefix{Len: 129}, Src: v6}, api.ErrValue},
		{api.Pair{Dst: v6, Src: api.Prefix{Len: -1}}, api.ErrValue},
		{api.Pair{Dst: api.Prefix{A: api.Addr{1}, Len: 7}, Src: v6}, api.ErrValue},
	} {
		d := sample(t)
		d.Locals[0].Pair = c.p
		if e := Check(d); e != c.want {
			t.Errorf("%v: Check = %d", c.p, e)
		}
	}
}

func TestCheckTellsTheFirst(t *testing.T) { // P9.2
	badId := func(c *api.Config) { c.Id = api.RouterId{} }
	noIfs := func(c *api.Config) { c.Ifs = nil }
	many := func(c *api.Config) { c.Locals = slices.Repeat(c.Locals, 200) }
	badIf := func(i int) func(c *api.Config) { return func(c *api.Config) { c.Ifs[i].Mtu = 63 } }
	sameIf := func(c *api.Config) { c.Ifs[1].Name = c.Ifs[0].Name }
	thirdIf := func(c *api.Config) { c.Ifs = append(c.Ifs, api.IfConf{}) }
	badRule := func(c *api.Config) { c.Rules[1].Chain = 4 }
	sameLocal := func(c *api.Config) { c.Locals[1].Pair = c.Locals[0].Pair }
	badLocal := func(c *api.Config) { c.Locals[1].Metric = 65535 }
	thirdLocal := func(c *api.Config) { c.Locals = append(c.Locals, api.Local{Metric: -1}) }
	badRoom := func(c *api.Config) { c.Requests = 0 }
	both := func(l ...func(c *api.Config)) func(c *api.Config) {
		return func(c *api.Config) {
			for _, f := range l {
				f(c)
			}
		}
	}
	checkFaults(t, []fault{
		{"Id ahead of no interfaces", both(badId, noIfs, many), api.ErrValue},
		{"no interfaces ahead of too many", both(noIfs, many, badRule), api.ErrWithout},
		{"too many ahead of an interface", both(many, badIf(0), badRule, badRoom), api.ErrMany},
		{"the first interface ahead of the second", both(badIf(0), sameIf), api.ErrValue},
		{"an interface's values ahead of its name again", both(badIf(1), sameIf), api.ErrValue},
		{"the second interface ahead of the third", both(sameIf, thirdIf), api.ErrTwice},
		{"interfaces ahead of rules", both(sameIf, badRule), api.ErrTwice},
		{"rules ahead of locals", both(badRule, sameLocal), api.ErrValue},
		{"a local's values ahead of its pair again", both(sameLocal, badLocal), api.ErrValue},
		{"the second local ahead of the third", both(sameLocal, thirdLocal), api.ErrTwice},
		{"locals ahead of limits", both(sameLocal, badRoom), api.ErrTwice},
		{"limits at the end", badRoom, api.ErrValue},
		{"the last rule", badRule, api.ErrValue},
		{"the third interface", thirdIf, api.ErrValue},
		{"the third local", thirdLocal, api.ErrValue},
	})
}

func TestCheckRule(t *testing.T) { // P9.3
	v4, v6 := prefix(t, "10.0.0.0/8"), prefix(t, "2001:db8::/32")
	long := api.Prefix{Len: 129}
	loose := api.Prefix{A: api.Addr{255}, Len: 7}
	for _, c := range []struct {
		r  api.Rule
		ok bool
	}{
		{api.Rule{}, true},
		{api.Rule{Chain: 1}, true},
		{api.Rule{Chain: 2}, true},
		{api.Rule{Chain: 3}, true},
		{api.Rule{Chain: 4}, false},
		{api.Rule{Chain: -1}, false},
		{api.Rule{Chain: math.MaxInt}, false},
		{api.Rule{Chain: math.MinInt}, false},
		{api.Rule{Dst: v4}, false},
		{api.Rule{Dst: api.Prefix{Len: 1}}, false},
		{api.Rule{Ge: 1}, false},
		{api.Rule{Le: 1}, false},
		{api.Rule{Ge: -1}, false},
		{api.Rule{Dst: v4, Ge: 8, Le: 8}, false},
		{api.Rule{HasDst: true}, true},
		{api.Rule{HasDst: true, Le: 128}, true},
		{api.Rule{HasDst: true, Ge: 128, Le: 128}, true},
		{api.Rule{HasDst: true, Ge: 128, Le: 129}, false},
		{api.Rule{HasDst: true, Ge: -1, Le: 0}, false},
		{api.Rule{HasDst: true, Dst: v4, Ge: 8, Le: 8}, true},
		{api.Rule{HasDst: true, Dst: v4, Ge: 32, Le: 32}, true},
		{api.Rule{HasDst: true, Dst: v4, Ge: 8, Le: 32}, true},
		{api.Rule{HasDst: true, Dst: v4, Ge: 7, Le: 8}, false},
		{api.Rule{HasDst: true, Dst: v4, Ge: 0, Le: 0}, false},
		{api.Rule{HasDst: true, Dst: v4, Ge: 9, Le: 8}, false},
		{api.Rule{HasDst: true, Dst: v4, Ge: 8, Le: 33}, false},
		{api.Rule{HasDst: true, Dst: v4, Ge: 104, Le: 128}, false},
		{api.Rule{HasDst: true, Dst: v6, Ge: 32, Le: 32}, true},
		{api.Rule{HasDst: true, Dst: v6, Ge: 32, Le: 128}, true},
		{api.Rule{HasDst: true, Dst: v6, Ge: 31, Le: 128}, false},
		{api.Rule{HasDst: true, Dst: v6, Ge: 33, Le: 32}, false},
		{api.Rule{HasDst: true, Dst: v6, Ge: 32, Le: 129}, false},
		{api.Rule{HasDst: true, Dst: v6, Ge: 32, Le: math.MaxInt}, false},
		{api.Rule{HasDst: true, Dst: addr.Any(api.V4), Ge: 0, Le: 0}, true},
		{api.Rule{HasDst: true, Dst: addr.Any(api.V4), Ge: 0, Le: 33}, false},
		{api.Rule{HasDst: true, Dst: long, Ge: 129, Le: 129}, false},
		{api.Rule{HasDst: true, Dst: long, Ge: 128, Le: 128}, false},
		{api.Rule{HasDst: true, Dst: api.Prefix{Len: -1}, Ge: 0, Le: 0}, false},
		{api.Rule{HasDst: true, Dst: loose, Ge: 7, Le: 7}, false},
		{api.Rule{Src: v4}, false},
		{api.Rule{Src: api.Prefix{Len: 1}}, false},
		{api.Rule{HasSrc: true}, true},
		{api.Rule{HasSrc: true, Src: v4}, true},
		{api.Rule{HasSrc: true, Src: v6}, true},
		{api.Rule{HasSrc: true, Src: long}, false},
		{api.Rule{HasSrc: true, Src: loose}, false},
		{api.Rule{HasDst: true, Dst: v4, Ge: 8, Le: 8, HasSrc: true, Src: v6}, true},
		{api.Rule{Id: api.RouterId{255, 255, 255, 255, 255, 255, 255, 255}}, true},
		{api.Rule{Deny: true}, true},
		{api.Rule{Deny: true, Add: 1}, false},
		{api.Rule{Deny: true, Add: -1}, false},
		{api.Rule{Add: 1}, true},
		{api.Rule{Add: 65535}, true},
		{api.Rule{Add: 65536}, false},
		{api.Rule{Add: -1}, false},
	} {
		want := api.OK
		if !c.ok {
			want = api.ErrValue
		}
		if e := CheckRule(c.r); e != want {
			t.Errorf("CheckRule(%+v) = %d, want %d", c.r, e, want)
		}
		if s := PrintRule(c.r); (s != "") != c.ok { // P9.6
			t.Errorf("PrintRule(%+v) = %q", c.r, s)
		}
		d := sample(t)
		d.Rules[1] = c.r
		if e := Check(d); e != want { // P9.2
			t.Errorf("Check with %+v = %d, want %d", c.r, e, want)
		}
	}
}
