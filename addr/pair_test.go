package addr

import (
	"math/rand"
	"slices"
	"strings"
	"testing"

	"culvert/api"
)

func pairOf(t *testing.T, s string) api.Pair {
	t.Helper()
	p, e := ParsePair(s)
	if e != api.OK {
		t.Fatal(s, e)
	}
	return p
}

// wrongPairs are pairs that CheckPair refuses; Dst and Src of those of unlike families hold addresses all the same.
func wrongPairs() []api.Pair {
	v4, v6 := Any(api.V4), Any(api.V6)
	wrong := []api.Pair{{Dst: v4, Src: v6}, {Dst: v6, Src: v4}}
	for _, p := range refused() {
		wrong = append(wrong, api.Pair{Dst: p, Src: v6}, api.Pair{Dst: v6, Src: p}, api.Pair{Dst: p, Src: v4}, api.Pair{Dst: v4, Src: p}, api.Pair{Dst: p, Src: p})
	}
	return wrong
}

func TestComparePair(t *testing.T) { // P2.4
	one, two := api.Prefix{A: api.Addr{0: 1}, Len: 8}, api.Prefix{A: api.Addr{0: 1}, Len: 9}
	rising := []api.Pair{{}, {Src: one}, {Dst: one}, {Dst: one, Src: one}, {Dst: one, Src: two}, {Dst: two}, {Dst: two, Src: one}}
	for i, p := range rising {
		for j, q := range rising {
			want := 0
			if i < j {
				want = -1
			} else if i > j {
				want = 1
			}
			if got := ComparePair(p, q); got != want {
				t.Errorf("ComparePair(%v, %v) = %d, want %d", p, q, got, want)
			}
		}
	}
}

func TestCheckPair(t *testing.T) { // P2.8
	for _, s := range []string{"::/0", "0.0.0.0/0", "10.0.0.0/8 from 1.0.0.0/8", "::/0 from 2001:db8::/32", "2001:db8::/32 from ::/0"} {
		if e := CheckPair(pairOf(t, s)); e != api.OK {
			t.Errorf("CheckPair of %s = %d", s, e)
		}
	}
	for _, p := range wrongPairs() {
		if e := CheckPair(p); e != api.ErrPrefix {
			t.Errorf("CheckPair(%v) = %d", p, e)
		}
	}
}

func TestSpecific(t *testing.T) { // P2.8
	for s, want := range map[string]bool{
		"::/0":                              false,
		"::/0 from ::/0":                    false,
		"::/0 from ::/1":                    true,
		"::/0 from ::/96":                   true,
		"::/0 from 2001:db8::/32":           true,
		"2001:db8::/32":                     false,
		"10.0.0.0/8":                        false,
		"10.0.0.0/8 from 0.0.0.0/0":         false,
		"10.0.0.0/8 from ::ffff:0:0/96":     false,
		"10.0.0.0/8 from 0.0.0.0/1":         true,
		"10.0.0.0/8 from 1.0.0.0/8":         true,
		"0.0.0.0/0 from 255.255.255.255/32": true,
	} {
		if got := Specific(pairOf(t, s)); got != want {
			t.Errorf("Specific of %s = %v, want %v", s, got, want)
		}
	}
	if Specific(api.Pair{Dst: Any(api.V4), Src: Any(api.V6)}) || Specific(api.Pair{Dst: Any(api.V6), Src: Any(api.V4)}) {
		t.Error("Src's own family tells, not Dst's")
	}
	if !Specific(api.Pair{Src: api.Prefix{Len: -1}}) || !Specific(api.Pair{Src: api.Prefix{A: Any(api.V4).A}}) {
		t.Error("a Src that may not be is not Any")
	}
}

func TestPrintPair(t *testing.T) { // P2.9
	for s, want := range map[string]string{
		"::/0":                                "::/0",
		"::/0 from ::/0":                      "::/0",
		"0.0.0.0/0":                           "0.0.0.0/0",
		"10.1.0.0/16 from 1.0.0.0/8":          "10.1.0.0/16 from 1.0.0.0/8",
		"::ffff:a00:0/104 from ::ffff:0:0/96": "10.0.0.0/8",
		"::/0 from 2001:DB8:0::/32":           "::/0 from 2001:db8::/32",
	} {
		if got := PrintPair(pairOf(t, s)); got != want {
			t.Errorf("PrintPair of %s = %q, want %q", s, got, want)
		}
	}
	for _, p := range wrongPairs() {
		if got := PrintPair(p); got != "" {
			t.Errorf("PrintPair(%v) = %q", p, got)
		}
	}
}

func TestParsePair(t *testing.T) { // P2.9
	ten := api.Prefix{A: api.Addr{10: 0xff, 11: 0xff, 12: 10}, Len: 104}
	one := api.Prefix{A: api.Addr{10: 0xff, 11: 0xff, 12: 1}, Len: 104}
	doc := api.Prefix{A: api.Addr{0: 0x20, 1: 0x01, 2: 0x0d, 3: 0xb8}, Len: 32}
	for s, want := range map[string]api.Pair{
		"::/0":                             {},
		"10.0.0.0/8":                       {Dst: ten, Src: Any(api.V4)},
		"::ffff:a00:0/104":                 {Dst: ten, Src: Any(api.V4)},
		"2001:db8::/32":                    {Dst: doc},
		"::/0 from 2001:db8::/32":          {Src: doc},
		"2001:db8::/32 from ::/0":          {Dst: doc},
		"10.0.0.0/8 from 1.0.0.0/8":        {Dst: ten, Src: one},
		"10.0.0.0/8 from ::ffff:100:0/104": {Dst: ten, Src: one},
		"10.0.0.0/8 from 0.0.0.0/0":        {Dst: ten, Src: Any(api.V4)},
	} {
		if p, e := ParsePair(s); p != want || e != api.OK {
			t.Errorf("ParsePair(%q) = %v, %d", s, p, e)
		}
	}
}

func TestParsePairRefuses(t *testing.T) { // P2.9
	for s, want := range map[string]api.Errno{
		"":                           api.ErrAddr,
		" ":                          api.ErrAddr,
		"from":                       api.ErrAddr,
		"::":                         api.ErrAddr,
		"::/0 ":                      api.ErrAddr,
		" ::/0":                      api.ErrAddr,
		"::/0 ::/0":                  api.ErrAddr,
		"::/0 from":                  api.ErrAddr,
		"::/0 from ":                 api.ErrAddr,
		" from ::/0":                 api.ErrAddr,
		"from ::/0":                  api.ErrAddr,
		"::/0 to ::/0":               api.ErrAddr,
		"::/0 From ::/0":             api.ErrAddr,
		"::/0  from ::/0":            api.ErrAddr,
		"::/0 from  ::/0":            api.ErrAddr,
		"::/0 from ::/0 ":            api.ErrAddr,
		" ::/0 from ::/0":            api.ErrAddr,
		"::/0 from ::/0 from ::/0":   api.ErrAddr,
		"::/0\tfrom\t::/0":           api.ErrAddr,
		"::/0 from ::/0\n":           api.ErrAddr,
		"::/0 from ::":               api.ErrAddr,
		"10.0.0.1/8":                 api.ErrPrefix,
		"::/129":                     api.ErrPrefix,
		"::/0 from 10.0.0.1/8":       api.ErrPrefix,
		"::/0 from 10.0.0.0/8":       api.ErrPrefix,
		"10.0.0.0/8 from ::/0":       api.ErrPrefix,
		"10.0.0.1/8 to ::/0":         api.ErrAddr, // how the words stand tells ahead of Dst
		"10.0.0.1/8 from":            api.ErrAddr,
		"10.0.0.1/8 from ":           api.ErrAddr,
		"10.0.0.1/8 from  ::/0":      api.ErrAddr,
		"10.0.0.1/8 from ::/0 ":      api.ErrAddr,
		"10.0.0.1/8 ":                api.ErrAddr,
		"10.0.0.1/8 from junk":       api.ErrPrefix, // Dst ahead of Src
		"junk from 10.0.0.1/8":       api.ErrAddr,
		"10.0.0.0/8 from junk":       api.ErrAddr, // Src ahead of the families
		strings.Repeat(" ", 1000000): api.ErrAddr,
		"::/0" + strings.Repeat(" from ::/0", 100000): api.ErrAddr,
	} {
		if p, e := ParsePair(s); p != (api.Pair{}) || e != want {
			t.Errorf("ParsePair(%.40q) = %v, %d, want %d", s, p, e, want)
		}
	}
}

func TestMatches(t *testing.T) { // P2.10
	for _, c := range []struct {
		p, src, dst string
		want        bool
	}{
		{"10.0.0.0/8 from 1.0.0.0/8", "1.2.3.4", "10.1.2.3", true},
		{"10.0.0.0/8 from 1.0.0.0/8", "2.2.3.4", "10.1.2.3", false},
		{"10.0.0.0/8 from 1.0.0.0/8", "1.2.3.4", "11.1.2.3", false},
		{"10.0.0.0/8 from 1.0.0.0/8", "10.1.2.3", "1.2.3.4", false},
		{"10.0.0.0/8", "2.2.3.4", "10.1.2.3", true},
		{"10.0.0.0/8", "::1", "10.1.2.3", false},
		{"::/0", "::1", "::2", true},
		{"::/0", "1.2.3.4", "10.1.2.3", true},
		{"2001:db8::/32 from 2001:db8:1::/48", "2001:db8:1::1", "2001:db8:2::1", true},
		{"2001:db8::/32 from 2001:db8:1::/48", "2001:db8:2::1", "2001:db8:1::1", false},
	} {
		if got := Matches(pairOf(t, c.p), address(t, c.src), address(t, c.dst)); got != c.want {
			t.Errorf("Matches(%s, %s, %s) = %v, want %v", c.p, c.src, c.dst, got, c.want)
		}
	}
	for _, p := range wrongPairs() {
		if Matches(p, p.Src.A, p.Dst.A) || Matches(p, address(t, "1.2.3.4"), address(t, "10.0.0.1")) || Matches(p, api.Addr{}, api.Addr{}) {
			t.Errorf("%v matches", p)
		}
	}
}

func TestBest(t *testing.T) { // P2.10
	for _, c := range []struct {
		src, dst string
		l        []string
		at       int
		ok       bool
	}{
		{"1.2.3.4", "10.1.2.3", nil, 0, false},
		{"1.2.3.4", "10.1.2.3", []string{"10.0.0.0/8", "10.1.0.0/16"}, 1, true},
		{"1.2.3.4", "10.1.2.3", []string{"10.1.0.0/16", "10.0.0.0/8"}, 0, true},
		{"1.2.3.4", "10.2.2.3", []string{"10.1.0.0/16", "10.0.0.0/8"}, 1, true},
		{"1.2.3.4", "10.1.2.3", []string{"10.0.0.0/8 from 1.2.3.4/32", "10.1.0.0/16"}, 1, true},
		{"1.2.3.4", "10.1.2.3", []string{"10.1.0.0/16", "10.1.0.0/16 from 1.0.0.0/8", "10.1.0.0/16 from 1.2.0.0/16", "10.1.0.0/16 from 0.0.0.0/1"}, 2, true},
		{"2.2.3.4", "10.1.2.3", []string{"10.1.0.0/16 from 1.0.0.0/8", "10.0.0.0/8"}, 1, true},
		{"1.2.3.4", "10.1.2.3", []string{"0.0.0.0/0", "10.1.0.0/16", "10.1.0.0/16", "10.1.0.0/16 from 0.0.0.0/0"}, 1, true},
		{"1.2.3.4", "10.1.2.3", []string{"11.0.0.0/8", "10.0.0.0/8 from 2.0.0.0/8", "2001:db8::/32"}, 0, false},
		{"1.2.3.4", "10.1.2.3", []string{"11.0.0.0/8", "::/0", "0.0.0.0/0"}, 2, true},
		{"2001:db8::1", "2001:db8::2", []string{"::/0", "0.0.0.0/0", "::/0 from 2001:db8::/32"}, 2, true},
	} {
		var l []api.Pair
		for _, s := range c.l {
			l = append(l, pairOf(t, s))
		}
		kept := slices.Clone(l)
		at, ok := Best(address(t, c.src), address(t, c.dst), l...)
		if at != c.at || ok != c.ok {
			t.Errorf("Best(%s, %s, %v) = %d, %v", c.src, c.dst, c.l, at, ok)
		}
		if !slices.Equal(l, kept) {
			t.Errorf("Best changed %v", c.l)
		}
	}
}

func TestBestPassesOverPairsThatMayNotBe(t *testing.T) { // P2.10
	src, dst := address(t, "1.2.3.4"), address(t, "10.1.2.3")
	wrong := wrongPairs()
	if at, ok := Best(src, dst, wrong...); at != 0 || ok {
		t.Error("of none that may be:", at, ok)
	}
	longest := api.Pair{Dst: api.Prefix{A: dst, Len: 128}, Src: Any(api.V6)} // longest of all, of unlike families
	l := append([]api.Pair{longest}, wrong...)
	l = append(l, pairOf(t, "10.0.0.0/8"), longest, pairOf(t, "0.0.0.0/0"))
	if at, ok := Best(src, dst, l...); at != len(wrong)+1 || !ok {
		t.Error("of one among others:", at, ok)
	}
}

func TestBestIsTheMostSpecificOfAll(t *testing.T) { // P2.10
	r := rand.New(rand.NewSource(10))
	found := 0
	for range 20000 {
		var l []api.Pair
		for range r.Intn(6) {
			l = append(l, api.Pair{Dst: somePrefix(r), Src: somePrefix(r)})
		}
		src, dst := last(somePrefix(r)), last(somePrefix(r))
		at, ok := Best(src, dst, l...)
		if !ok && at != 0 || ok && !Matches(l[at], src, dst) {
			t.Fatal(at, ok, l)
		}
		if ok {
			found++
		}
		for i, p := range l {
			if !Matches(p, src, dst) {
				continue
			}
			if !ok {
				t.Fatal("there was", p)
			}
			b := l[at]
			if p.Dst.Len > b.Dst.Len || p.Dst.Len == b.Dst.Len && (p.Src.Len > b.Src.Len || p.Src.Len == b.Src.Len && i < at) {
				t.Fatal(p, "is ahead of", b)
			}
		}
	}
	if found < 1000 {
		t.Fatal("only", found, "times one was found")
	}
}

func TestParsePairReadsWhatPrintPairWrites(t *testing.T) { // P2.11
	r := rand.New(rand.NewSource(11))
	read := 0
	for range 20000 {
		p := api.Pair{Dst: somePrefix(r), Src: somePrefix(r)}
		if CheckPair(p) != api.OK {
			continue
		}
		read++
		if q, e := ParsePair(PrintPair(p)); q != p || e != api.OK {
			t.Fatalf("ParsePair(%q) = %v, %d, want %v", PrintPair(p), q, e, p)
		}
	}
	if read < 1000 {
		t.Fatal("only", read, "pairs were read")
	}
}
