package filter

import (
	"math"
	"slices"
	"strings"
	"testing"

	"culvert/addr"
	"culvert/api"
	"culvert/conf"
)

// rule reads a rule that may be.
func rule(t testing.TB, s string) api.Rule {
	t.Helper()
	r, e := conf.ParseRule(strings.Fields(s)...)
	if e != api.OK {
		t.Fatalf("%s is no rule: %d", s, e)
	}
	return r
}

func rules(t testing.TB, l ...string) []api.Rule {
	t.Helper()
	var out []api.Rule
	for _, s := range l {
		out = append(out, rule(t, s))
	}
	return out
}

func pair(t testing.TB, s string) api.Pair {
	t.Helper()
	p, e := addr.ParsePair(s)
	if e != api.OK {
		t.Fatalf("%s is no pair", s)
	}
	return p
}

// one is the router of most routes here.
var one = api.RouterId{0, 0, 0, 0, 0, 0, 0, 1}

func TestMatchesItsChain(t *testing.T) { // P10.1
	p := pair(t, "10.0.0.0/8")
	chains := []string{api.ChainIn: "in", api.ChainOut: "out", api.ChainRedistribute: "redistribute", api.ChainInstall: "install"}
	for of, word := range chains {
		for _, what := range []string{" allow", " deny", " add 7"} {
			for _, chain := range []int{math.MinInt, -1, 0, 1, 2, 3, 4, 256, math.MaxInt} {
				if got := Matches(rule(t, word+what), chain, "e0", p, one); got != (chain == of) {
					t.Errorf("%s%s, of chain %d: %v", word, what, chain, got)
				}
			}
		}
	}
}

func TestMatchesItsInterface(t *testing.T) { // P10.1
	p := pair(t, "10.0.0.0/8")
	for _, c := range []struct {
		rule, name string
		want       bool
	}{
		{"in allow", "e0", true}, {"in allow", "", true}, {"in allow", "no name/", true},
		{"in if e0 allow", "e0", true}, {"in if e0 allow", "e1", false}, {"in if e0 allow", "e", false},
		{"in if e0 allow", "e00", false}, {"in if e0 allow", "E0", false}, {"in if e0 allow", "", false},
		{"in if e0 allow", "e0 ", false}, {"in if e0 deny", "e0", true}, {"in if e1 deny", "e0", false},
	} {
		if got := Matches(rule(t, c.rule), api.ChainIn, c.name, p, one); got != c.want {
			t.Errorf("%s, at %q: %v", c.rule, c.name, got)
		}
	}
}

func TestMatchesItsDst(t *testing.T) { // P10.1
	for _, c := range []struct {
		dst, pair string
		want      bool
	}{
		// The pair's own prefix.
		{"10.0.0.0/8", "10.0.0.0/8", true}, {"2001:db8::/32", "2001:db8::/32", true}, {"::/0", "::/0", true}, {"0.0.0.0/0", "0.0.0.0/0", true},
		{"10.1.1.1/32", "10.1.1.1/32", true}, {"::1/128", "::1/128", true},
		// It covers the pair's, but the pair's has more bits than the rule tells where it tells none.
		{"10.0.0.0/8", "10.0.0.0/9", false}, {"2001:db8::/32", "2001:db8::/33", false}, {"::/0", "1::/16", false},
		// It covers the pair's, or not.
		{"10.0.0.0/8 le 32", "10.0.0.0/8", true}, {"10.0.0.0/8 le 32", "10.0.0.0/9", true}, {"10.0.0.0/8 le 32", "10.128.0.0/9", true}, {"10.0.0.0/8 le 32", "10.255.255.255/32", true},
		{"10.0.0.0/8 le 32", "11.0.0.0/8", false}, {"10.0.0.0/8 le 32", "11.0.0.0/16", false}, {"10.0.0.0/8 le 32", "9.255.255.255/32", false}, {"10.0.0.0/8 le 32", "11.0.0.0/32", false},
		{"10.0.0.0/8 le 32", "10.0.0.0/7", false}, {"10.0.0.0/8 le 32", "0.0.0.0/0", false}, {"0.0.0.0/0 le 32", "255.0.0.0/8", true},
		{"2001:db8::/32 le 128", "2001:db8::/32", true}, {"2001:db8::/32 le 128", "2001:db8:ffff::/48", true}, {"2001:db8::/32 le 128", "2001:db8::1/128", true},
		{"2001:db8::/32 le 128", "2001:db9::/32", false}, {"2001:db8::/32 le 128", "2001:db7:ffff::/48", false}, {"2001:db8::/32 le 128", "2001:db8::/31", false}, {"2001:db8::/32 le 128", "::/0", false},
		{"::/0 le 128", "fe80::/64", true}, {"::/1 le 128", "8000::/1", false}, {"8000::/1 le 128", "8000::/1", true},
		// Ge and Le, each at its bound and one beyond.
		{"10.0.0.0/8 ge 16 le 24", "10.1.0.0/16", true}, {"10.0.0.0/8 ge 16 le 24", "10.0.0.0/15", false},
		{"10.0.0.0/8 ge 16 le 24", "10.1.1.0/24", true}, {"10.0.0.0/8 ge 16 le 24", "10.1.1.0/25", false},
		{"10.0.0.0/8 ge 16 le 24", "10.0.0.0/20", true}, {"10.0.0.0/8 ge 16 le 24", "11.0.0.0/20", false}, {"10.0.0.0/8 ge 16 le 24", "10.0.0.0/8", false},
		{"10.0.0.0/8 ge 16", "10.1.0.0/16", true}, {"10.0.0.0/8 ge 16", "10.1.0.0/17", false}, {"10.0.0.0/8 ge 16", "10.0.0.0/15", false},
		{"10.0.0.0/8 ge 8 le 24", "10.1.0.0/16", true}, {"10.0.0.0/8 ge 8 le 24", "10.1.1.1/32", false},
		{"0.0.0.0/0 ge 32", "10.0.0.1/32", true}, {"0.0.0.0/0 ge 32", "10.0.0.0/31", false}, {"0.0.0.0/0 ge 0 le 0", "0.0.0.0/0", true}, {"0.0.0.0/0 ge 0 le 0", "0.0.0.0/1", false},
		{"2001:db8::/32 ge 48 le 64", "2001:db8:1::/48", true}, {"2001:db8::/32 ge 48 le 64", "2001:db8::/47", false},
		{"2001:db8::/32 ge 48 le 64", "2001:db8::/64", true}, {"2001:db8::/32 ge 48 le 64", "2001:db8::/65", false}, {"2001:db8::/32 ge 48 le 64", "2001:db8::/32", false},
		{"::/0 ge 128", "::1/128", true}, {"::/0 ge 128", "::/127", false}, {"::/0 ge 0 le 0", "::/1", false},
		{"::/0 le 127", "::/127", true}, {"::/0 le 127", "::1/128", false},
		// The other family, which prefixes of a few bits cover all the same.
		{"::/0 le 128", "0.0.0.0/0", false}, {"::/0 le 128", "10.0.0.0/8", false}, {"::/0 ge 8 le 8", "10.0.0.0/8", false}, {"::/0 ge 104", "10.0.0.0/8", false},
		{"::/80 ge 80 le 128", "10.0.0.1/32", false}, {"::fffe:0:0/95 le 128", "10.0.0.0/8", false}, {"::fffe:0:0/95 le 128", "0.0.0.0/0", false},
		{"::fffe:0:0/95 le 128", "::fffe:a00:0/104", true}, {"::fffe:0:0/95 le 128", "::fffe:0:0/95", true},
		{"0.0.0.0/0 le 32", "::/0", false}, {"0.0.0.0/0 le 32", "::/16", false}, {"0.0.0.0/0 le 32", "::a00:0/104", false}, {"10.0.0.0/8 le 32", "a00::/8", false}, {"10.0.0.0/8 le 32", "::fffe:0:0/95", false},
		{"::ffff:0:0/96 le 32", "10.0.0.0/8", true}, {"::ffff:0:0/96 le 7", "10.0.0.0/8", false},
	} {
		r := rule(t, "in dst "+c.dst+" deny")
		if got := Matches(r, api.ChainIn, "e0", pair(t, c.pair), one); got != c.want {
			t.Errorf("dst %s, of %s: %v", c.dst, c.pair, got)
		}
	}
}

// Each bound, moved over all numbers of bits that a prefix may have.
func TestMatchesFromGeToLe(t *testing.T) { // P10.1
	for _, of := range []struct {
		any  string
		most int
	}{{"0.0.0.0/0", 32}, {"::/0", 128}} {
		any := pair(t, of.any).Dst
		for ge := 0; ge <= of.most; ge++ {
			for le := ge; le <= of.most; le += 1 + (le-ge)/3 {
				r := api.Rule{HasDst: true, Dst: any, Ge: ge, Le: le}
				for n := 0; n <= of.most; n++ {
					p := api.Pair{Dst: api.Prefix{A: any.A, Len: any.Len + n}, Src: any}
					if got := Matches(r, api.ChainIn, "e0", p, one); got != (ge <= n && n <= le) {
						t.Fatalf("%s ge %d le %d, of %d bits: %v", of.any, ge, le, n, got)
					}
				}
			}
		}
	}
}

func TestMatchesItsSrc(t *testing.T) { // P10.1
	for _, c := range []struct {
		src, pair string
		want      bool
	}{
		{"1.0.0.0/8", "10.0.0.0/8 from 1.0.0.0/8", true}, {"1.0.0.0/8", "10.0.0.0/8 from 1.2.0.0/16", true}, {"1.0.0.0/8", "10.0.0.0/8 from 1.2.3.4/32", true},
		{"1.0.0.0/8", "10.0.0.0/8 from 2.0.0.0/8", false}, {"1.0.0.0/8", "10.0.0.0/8 from 0.0.0.0/7", false}, {"1.0.0.0/8", "10.0.0.0/8", false}, {"1.0.0.0/8", "1.0.0.0/8", false},
		{"1.0.0.0/8", "1.0.0.0/8 from 2.0.0.0/8", false}, {"0.0.0.0/0", "10.0.0.0/8", true}, {"0.0.0.0/0", "10.0.0.0/8 from 1.0.0.0/8", true},
		{"2001:db8::/32", "::/0 from 2001:db8::/32", true}, {"2001:db8::/32", "::/0 from 2001:db8:1::/48", true}, {"2001:db8::/32", "::/0 from 2001:db8::/31", false},
		{"2001:db8::/32", "::/0 from 2001:db9::/32", false}, {"2001:db8::/32", "::/0", false}, {"::/0", "::/0", true}, {"::/0", "1::/16 from 2001:db8::/32", true},
		{"1.0.0.0/8", "::/0", false}, {"0.0.0.0/0", "::/0", false}, {"2001:db8::/32", "10.0.0.0/8 from 1.0.0.0/8", false},
		// Of Src the document asks that it covers, and no more.
		{"::/0", "10.0.0.0/8", true}, {"::/0", "10.0.0.0/8 from 1.0.0.0/8", true}, {"::/80", "10.0.0.0/8 from 1.0.0.0/8", true}, {"::/81", "10.0.0.0/8", false},
	} {
		r := rule(t, "in src "+c.src+" deny")
		if got := Matches(r, api.ChainIn, "e0", pair(t, c.pair), one); got != c.want {
			t.Errorf("src %s, of %s: %v", c.src, c.pair, got)
		}
	}
}

func TestMatchesItsRouter(t *testing.T) { // P10.1
	p := pair(t, "::/0")
	for _, c := range []struct {
		rule string
		id   api.RouterId
		want bool
	}{
		{"in allow", one, true}, {"in allow", api.RouterId{}, true}, {"in id 00:00:00:00:00:00:00:00 allow", one, true},
		{"in id 00:00:00:00:00:00:00:01 allow", one, true}, {"in id 00:00:00:00:00:00:00:01 allow", api.RouterId{}, false},
		{"in id 00:00:00:00:00:00:00:02 allow", one, false}, {"in id 01:00:00:00:00:00:00:01 allow", one, false}, {"in id 01:00:00:00:00:00:00:00 allow", one, false},
		{"in id 01:02:03:04:05:06:07:08 allow", api.RouterId{1, 2, 3, 4, 5, 6, 7, 8}, true}, {"in id 01:02:03:04:05:06:07:08 allow", api.RouterId{1, 2, 3, 4, 5, 6, 7, 9}, false},
	} {
		if got := Matches(rule(t, c.rule), api.ChainIn, "e0", p, c.id); got != c.want {
			t.Errorf("%s, of %v: %v", c.rule, c.id, got)
		}
	}
}

// A rule matches only where all that it says does: with each part by itself wrong it does not.
func TestMatchesInAll(t *testing.T) { // P10.1
	r := rule(t, "out if e0 dst 10.0.0.0/8 ge 16 le 24 src 1.0.0.0/8 id 00:00:00:00:00:00:00:01 add 5")
	for _, c := range []struct {
		chain      int
		name, pair string
		id         api.RouterId
		want       bool
	}{
		{api.ChainOut, "e0", "10.1.0.0/16 from 1.1.0.0/16", one, true},
		{api.ChainIn, "e0", "10.1.0.0/16 from 1.1.0.0/16", one, false},
		{api.ChainOut, "e1", "10.1.0.0/16 from 1.1.0.0/16", one, false},
		{api.ChainOut, "e0", "11.1.0.0/16 from 1.1.0.0/16", one, false},
		{api.ChainOut, "e0", "10.0.0.0/15 from 1.1.0.0/16", one, false},
		{api.ChainOut, "e0", "10.1.0.0/25 from 1.1.0.0/16", one, false},
		{api.ChainOut, "e0", "10.1.0.0/16 from 2.1.0.0/16", one, false},
		{api.ChainOut, "e0", "10.1.0.0/16", one, false},
		{api.ChainOut, "e0", "1.1.0.0/16 from 10.1.0.0/16", one, false},
		{api.ChainOut, "e0", "10.1.0.0/16 from 1.1.0.0/16", api.RouterId{2}, false},
	} {
		if got := Matches(r, c.chain, c.name, pair(t, c.pair), c.id); got != c.want {
			t.Errorf("of chain %d, at %s, of %s, of %v: %v", c.chain, c.name, c.pair, c.id, got)
		}
	}
}

func TestWhich(t *testing.T) { // P10.2
	l := rules(t, "out allow", "in dst 10.1.0.0/16 le 24 deny", "in if e0 dst 10.0.0.0/8 le 32 add 10", "in id 00:00:00:00:00:00:00:01 allow", "in if e0 deny", "install add 3")
	for _, c := range []struct {
		chain      int
		name, pair string
		id         api.RouterId
		at         int
		ok         bool
	}{
		{api.ChainOut, "e0", "10.1.0.0/16", one, 0, true},
		{api.ChainIn, "e0", "10.1.0.0/16", one, 1, true},
		{api.ChainIn, "e1", "10.1.1.0/24", one, 1, true},
		{api.ChainIn, "e0", "10.1.1.1/32", one, 2, true},
		{api.ChainIn, "e1", "10.1.1.1/32", one, 3, true},
		{api.ChainIn, "e0", "::/0", one, 3, true},
		{api.ChainIn, "e0", "::/0", api.RouterId{2}, 4, true},
		{api.ChainIn, "e1", "::/0", api.RouterId{2}, 0, false},
		{api.ChainInstall, "e1", "::/0", api.RouterId{2}, 5, true},
		{api.ChainRedistribute, "e0", "10.1.0.0/16", one, 0, false},
		{-1, "e0", "10.1.0.0/16", one, 0, false},
		{4, "e0", "10.1.0.0/16", one, 0, false},
	} {
		at, ok := Which(c.chain, c.name, pair(t, c.pair), c.id, l...)
		if at != c.at || ok != c.ok {
			t.Errorf("of chain %d, at %s, of %s, of %v: %d, %v", c.chain, c.name, c.pair, c.id, at, ok)
		}
	}
}

func TestNoRules(t *testing.T) { // P10.2, P10.3
	p := pair(t, "10.0.0.0/8")
	for chain := -1; chain <= 4; chain++ {
		for _, l := range [][]api.Rule{nil, {}} {
			if at, ok := Which(chain, "e0", p, one, l...); at != 0 || ok {
				t.Errorf("Which: %d, %v", at, ok)
			}
		}
		if at, ok := Which(chain, "e0", p, one); at != 0 || ok {
			t.Errorf("Which of none: %d, %v", at, ok)
		}
		for _, m := range []uint16{0, 1, 50, 65534, 65535} {
			if got := Metric(chain, "e0", p, one, m); got != m {
				t.Errorf("Metric(%d) = %d", m, got)
			}
		}
	}
}

func TestMetric(t *testing.T) { // P10.3
	p := pair(t, "10.0.0.0/8")
	for _, c := range []struct {
		rule         string
		metric, want uint16
	}{
		{"in allow", 0, 0}, {"in allow", 50, 50}, {"in allow", 65534, 65534}, {"in allow", 65535, 65535}, {"in add 0", 50, 50},
		{"in deny", 0, 65535}, {"in deny", 50, 65535}, {"in deny", 65534, 65535}, {"in deny", 65535, 65535},
		{"in add 1", 0, 1}, {"in add 10", 50, 60}, {"in add 10", 65523, 65533}, {"in add 10", 65524, 65534}, {"in add 10", 65525, 65535}, {"in add 10", 65526, 65535}, {"in add 10", 65530, 65535}, {"in add 10", 65535, 65535},
		{"in add 65534", 0, 65534}, {"in add 65534", 1, 65535}, {"in add 65534", 2, 65535}, {"in add 65534", 65534, 65535}, {"in add 65534", 65535, 65535},
		{"in add 65535", 0, 65535}, {"in add 65535", 1, 65535}, {"in add 65535", 65535, 65535}, {"in add 32768", 32768, 65535}, {"in add 32767", 32767, 65534},
		// None that matches.
		{"out deny", 50, 50}, {"in if e1 deny", 50, 50}, {"in dst ::/0 le 128 add 7", 50, 50}, {"in src 1.0.0.0/8 deny", 65534, 65534}, {"in id 00:00:00:00:00:00:00:02 deny", 65535, 65535}, {"out deny", 0, 0},
	} {
		if got := Metric(api.ChainIn, "e0", p, one, c.metric, rule(t, c.rule)); got != c.want {
			t.Errorf("%s, of %d: %d, want %d", c.rule, c.metric, got, c.want)
		}
	}
}

// Of several that match the first counts, whatever stands behind it, and those of other chains count nowhere.
func TestTheFirstOne(t *testing.T) { // P10.4
	p := pair(t, "10.0.0.0/8")
	for _, c := range []struct {
		rules string
		at    int
		want  uint16
	}{
		{"in allow, in deny", 0, 50}, {"in deny, in allow", 0, 65535}, {"in add 5, in deny", 0, 55}, {"in add 5, in add 7", 0, 55}, {"in add 7, in add 5", 0, 57}, {"in deny, in add 5", 0, 65535},
		{"in allow, in add 5, in deny", 0, 50}, {"in allow, in allow, in allow", 0, 50},
		{"in if e1 deny, in add 5, in deny", 1, 55}, {"out deny, in add 5", 1, 55}, {"install deny, redistribute add 3, out add 4, in add 5", 3, 55},
		{"in add 5, out deny", 0, 55}, {"in if e1 deny, out deny, in if e0 add 6, in deny", 2, 56},
		{"in dst 10.0.0.0/8 add 1, in dst 0.0.0.0/0 le 32 add 2", 0, 51}, {"in dst 0.0.0.0/0 le 32 add 2, in dst 10.0.0.0/8 add 1", 0, 52}, // the longer one is not ahead for that
	} {
		l := rules(t, strings.Split(c.rules, ", ")...)
		if at, ok := Which(api.ChainIn, "e0", p, one, l...); at != c.at || !ok {
			t.Errorf("%s: the place is %d, %v", c.rules, at, ok)
		}
		if got := Metric(api.ChainIn, "e0", p, one, 50, l...); got != c.want {
			t.Errorf("%s: %d, want %d", c.rules, got, c.want)
		}
	}
}

func TestNeverBetter(t *testing.T) { // P10.5
	p := pair(t, "10.0.0.0/8")
	for add := 0; add <= 65535; add += 251 {
		for m := 0; m <= 65535; m += 257 {
			got := Metric(api.ChainIn, "e0", p, one, uint16(m), api.Rule{Add: add})
			if want := min(m+add, 65535); int(got) < m || int(got) != want {
				t.Fatalf("add %d, of %d: %d", add, m, got)
			}
		}
	}
}

func TestRulesAreLeftAlone(t *testing.T) { // rule 3
	l := rules(t, "out deny", "in if e1 deny", "in dst 10.0.0.0/8 le 24 src 1.0.0.0/8 id 00:00:00:00:00:00:00:01 add 5", "in deny", "install allow")
	with := slices.Clone(l)
	p := pair(t, "10.1.0.0/16 from 1.0.0.0/8")
	for n := range len(l) + 1 {
		Matches(l[min(n, 4)], api.ChainIn, "e0", p, one)
		Which(api.ChainIn, "e0", p, one, l[:n]...) // the rest is spare room
		Metric(api.ChainIn, "e0", p, one, 50, l[:n]...)
		if !slices.Equal(l, with) {
			t.Fatalf("of %d the rules have become %+v", n, l)
		}
	}
	// What is in the spare room has no part, and nothing is kept of other rules that were handed in.
	if at, ok := Which(api.ChainIn, "e0", p, one, l[:2]...); at != 0 || ok {
		t.Errorf("of two rules: %d, %v", at, ok)
	}
	if m := Metric(api.ChainIn, "e0", p, one, 50, l[:3]...); m != 55 {
		t.Errorf("of three rules: %d", m)
	}
	if m := Metric(api.ChainIn, "e0", p, one, 50); m != 50 {
		t.Errorf("of none: %d", m)
	}
}
