package fib

import (
	"math"
	"math/rand"
	"slices"
	"strconv"
	"strings"
	"testing"

	"culvert/addr"
	"culvert/api"
)

// pair reads a pair that is written as it ought to be.
func pair(s string) api.Pair {
	p, e := addr.ParsePair(s)
	if e != api.OK {
		panic(s)
	}
	return p
}

// hop is a next hop that goes with an interface, so that a test sees whether both are taken from one entry.
func hop(i int) api.Addr {
	return api.Addr{0: 0xfe, 1: 0x80, 15: byte(i)}
}

// entry reads "pair: interface".
func entry(s string) api.Entry {
	text, n, _ := strings.Cut(s, ": ")
	i, err := strconv.Atoi(n)
	if err != nil {
		panic(s)
	}
	return api.Entry{Pair: pair(text), If: i, Hop: hop(i)}
}

func entries(l ...string) []api.Entry {
	var out []api.Entry
	for _, s := range l {
		out = append(out, entry(s))
	}
	return out
}

// told writes entries as entry reads them; one whose Hop does not go with its If is told as such.
func told(l []api.Entry) []string {
	var out []string
	for _, e := range l {
		s := addr.PrintPair(e.Pair) + ": " + strconv.Itoa(e.If)
		if e.Hop != hop(e.If) {
			s += " through " + addr.Print(e.Hop)
		}
		out = append(out, s)
	}
	return out
}

// is fails unless these are just the entries.
func is(t *testing.T, what string, got []api.Entry, want ...string) {
	t.Helper()
	if s := told(got); !slices.Equal(s, want) {
		t.Errorf("%s:\n%s\nwant\n%s", what, strings.Join(s, "\n"), strings.Join(want, "\n"))
	}
}

func TestExpand(t *testing.T) { // P19.1
	for _, c := range []struct {
		name    string
		l, want []string
	}{
		{"none", nil, nil},
		{"one", []string{"10.0.0.0/8: 1"}, []string{"10.0.0.0/8: 1"}},
		{"the chapter's example",
			[]string{"::/0 from 2001:db8::/32: 1", "2001::/16: 2"},
			[]string{"::/0 from 2001:db8::/32: 1", "2001::/16: 2", "2001::/16 from 2001:db8::/32: 2"}},
		{"the document's example",
			[]string{"10.0.0.0/8 from 1.0.0.0/8: 1", "10.1.0.0/16: 2"},
			[]string{"10.0.0.0/8 from 1.0.0.0/8: 1", "10.1.0.0/16: 2", "10.1.0.0/16 from 1.0.0.0/8: 2"}},
		{"no source matters",
			[]string{"10.0.0.0/8: 1", "10.1.0.0/16: 2", "10.1.1.0/24: 3"},
			[]string{"10.0.0.0/8: 1", "10.1.0.0/16: 2", "10.1.1.0/24: 3"}},
		{"one Dst alone",
			[]string{"10.0.0.0/8: 1", "10.0.0.0/8 from 1.0.0.0/8: 2", "10.0.0.0/8 from 1.1.0.0/16: 3", "10.0.0.0/8 from 2.0.0.0/8: 4"},
			[]string{"10.0.0.0/8: 1", "10.0.0.0/8 from 1.0.0.0/8: 2", "10.0.0.0/8 from 1.1.0.0/16: 3", "10.0.0.0/8 from 2.0.0.0/8: 4"}},
		{"Dsts side by side",
			[]string{"10.0.0.0/8 from 1.0.0.0/8: 1", "11.0.0.0/8 from 2.0.0.0/8: 2"},
			[]string{"10.0.0.0/8 from 1.0.0.0/8: 1", "11.0.0.0/8 from 2.0.0.0/8: 2"}},
		{"a narrower source within",
			[]string{"10.0.0.0/8: 1", "10.1.0.0/16 from 1.0.0.0/8: 2"},
			[]string{"10.0.0.0/8: 1", "10.1.0.0/16: 1", "10.1.0.0/16 from 1.0.0.0/8: 2"}},
		{"sources apart",
			[]string{"10.0.0.0/8 from 1.0.0.0/8: 1", "10.1.0.0/16 from 2.0.0.0/8: 2"},
			[]string{"10.0.0.0/8 from 1.0.0.0/8: 1", "10.1.0.0/16 from 1.0.0.0/8: 1", "10.1.0.0/16 from 2.0.0.0/8: 2"}},
		{"a longer Dst goes ahead of a longer Src",
			[]string{"10.0.0.0/8 from 1.1.1.0/24: 1", "10.1.0.0/16 from 1.0.0.0/8: 2"},
			[]string{"10.0.0.0/8 from 1.1.1.0/24: 1", "10.1.0.0/16 from 1.0.0.0/8: 2", "10.1.0.0/16 from 1.1.1.0/24: 2"}},
		{"the longest Src of those of one Dst",
			[]string{"10.0.0.0/8 from 1.1.1.0/24: 1", "10.1.0.0/16: 2", "10.1.0.0/16 from 1.0.0.0/8: 3", "10.1.0.0/16 from 1.1.0.0/16: 4", "10.1.0.0/16 from 2.0.0.0/8: 5"},
			[]string{"10.0.0.0/8 from 1.1.1.0/24: 1", "10.1.0.0/16: 2", "10.1.0.0/16 from 1.0.0.0/8: 3", "10.1.0.0/16 from 1.1.0.0/16: 4", "10.1.0.0/16 from 1.1.1.0/24: 4", "10.1.0.0/16 from 2.0.0.0/8: 5"}},
		{"the same source again",
			[]string{"10.0.0.0/8 from 1.0.0.0/8: 1", "10.1.0.0/16 from 1.0.0.0/8: 2"},
			[]string{"10.0.0.0/8 from 1.0.0.0/8: 1", "10.1.0.0/16 from 1.0.0.0/8: 2"}},
		{"a source behind one that covers it not",
			[]string{"10.0.0.0/8 from 3.0.0.0/8: 1", "10.1.0.0/16 from 1.0.0.0/8: 2", "10.1.0.0/16 from 2.0.0.0/8: 3"},
			[]string{"10.0.0.0/8 from 3.0.0.0/8: 1", "10.1.0.0/16 from 1.0.0.0/8: 2", "10.1.0.0/16 from 2.0.0.0/8: 3", "10.1.0.0/16 from 3.0.0.0/8: 1"}},
		{"three within one another",
			[]string{"::/0 from 2001::/16: 1", "2001::/16 from 2001:db8::/32: 2", "2001:db8::/32: 3"},
			[]string{"::/0 from 2001::/16: 1", "2001::/16 from 2001::/16: 1", "2001::/16 from 2001:db8::/32: 2", "2001:db8::/32: 3", "2001:db8::/32 from 2001::/16: 3", "2001:db8::/32 from 2001:db8::/32: 3"}},
		{"the nearest of three",
			[]string{"::/0: 1", "2001::/16 from 2001::/16: 2", "2001:db8::/32 from 2001:db8:1::/48: 3"},
			[]string{"::/0: 1", "2001::/16: 1", "2001::/16 from 2001::/16: 2", "2001:db8::/32: 1", "2001:db8::/32 from 2001::/16: 2", "2001:db8::/32 from 2001:db8:1::/48: 3"}},
		{"the wide one behind a narrow one beside",
			[]string{"::/0 from 2001::/16: 1", "1::/16: 2", "1:1::/32: 3", "2::/16: 4"},
			[]string{"::/0 from 2001::/16: 1", "1::/16: 2", "1::/16 from 2001::/16: 2", "1:1::/32: 3", "1:1::/32 from 2001::/16: 3", "2::/16: 4", "2::/16 from 2001::/16: 4"}},
		{"all the way to single addresses",
			[]string{"0.0.0.0/0 from 1.2.3.4/32: 1", "10.0.0.1/32: 2", "::/0 from ::1/128: 3", "ffff::1/128: 4"},
			[]string{"::/0 from ::1/128: 3", "0.0.0.0/0 from 1.2.3.4/32: 1", "10.0.0.1/32: 2", "10.0.0.1/32 from 1.2.3.4/32: 2", "ffff::1/128: 4", "ffff::1/128 from ::1/128: 4"}},
	} {
		is(t, c.name, Expand(entries(c.l...)...), c.want...)
		back := entries(c.l...)
		slices.Reverse(back)
		is(t, c.name+", the other way round", Expand(back...), c.want...)
	}
}

func TestExpandKeepsFamiliesApart(t *testing.T) { // P19.1: ::/0 and ::fffe:0:0/95 cover what is mapped, and are of IPv6
	is(t, "both", Expand(entries("2001::/16: 5", "10.0.0.0/8: 4", "0.0.0.0/0 from 1.0.0.0/8: 3", "::fffe:0:0/95 from 2002::/16: 2", "::/0 from 2001::/16: 1")...),
		"::/0 from 2001::/16: 1",
		"::fffe:0:0/95 from 2001::/16: 1", "::fffe:0:0/95 from 2002::/16: 2",
		"0.0.0.0/0 from 1.0.0.0/8: 3",
		"10.0.0.0/8: 4", "10.0.0.0/8 from 1.0.0.0/8: 4",
		"2001::/16: 5", "2001::/16 from 2001::/16: 5")
	is(t, "IPv6 around IPv4", Expand(entries("::/0 from ::/1: 1", "0.0.0.0/0: 2", "10.0.0.1/32 from 1.0.0.0/8: 3")...),
		"::/0 from ::/1: 1", "0.0.0.0/0: 2", "10.0.0.1/32: 2", "10.0.0.1/32 from 1.0.0.0/8: 3")
}

// wrong are entries whose pair may not be, each beside what is right.
func wrong() []api.Entry {
	v4, v6 := pair("10.0.0.0/8"), pair("2001:db8::/32")
	var l []api.Entry
	for _, p := range []api.Prefix{{Len: -1}, {Len: 129}, {Len: math.MinInt}, {Len: math.MaxInt}, {A: api.Addr{15: 1}, Len: 127}, {A: api.Addr{0: 1}}, {A: api.Addr{0: 0x20, 1: 1}, Len: 15}} {
		for _, right := range []api.Prefix{v4.Dst, v4.Src, v6.Dst, v6.Src, p} {
			l = append(l, api.Entry{Pair: api.Pair{Dst: p, Src: right}, If: 9}, api.Entry{Pair: api.Pair{Dst: right, Src: p}, If: 9})
		}
	}
	return append(l, api.Entry{Pair: api.Pair{Dst: v4.Dst, Src: v6.Src}, If: 9}, api.Entry{Pair: api.Pair{Dst: v6.Dst, Src: v4.Src}, If: 9})
}

func TestExpandPassesOverWhatMayNotBe(t *testing.T) { // the words ahead of P19.1
	l := wrong()
	is(t, "all wrong", Expand(l...))
	for _, e := range l {
		is(t, "one wrong", Expand(e))
		is(t, "a right one behind", Expand(e, entry("10.0.0.0/8: 1")), "10.0.0.0/8: 1")
	}
	mixed := slices.Concat(l, entries("2001::/16: 2"), l, entries("::/0 from 2001:db8::/32: 1"), l)
	is(t, "among others", Expand(mixed...), "::/0 from 2001:db8::/32: 1", "2001::/16: 2", "2001::/16 from 2001:db8::/32: 2")
}

func TestExpandTakesTheFirstOfAPair(t *testing.T) { // the words ahead of P19.1
	is(t, "two", Expand(entries("10.0.0.0/8: 1", "10.0.0.0/8: 2")...), "10.0.0.0/8: 1")
	is(t, "two", Expand(entries("10.0.0.0/8: 2", "10.0.0.0/8: 1")...), "10.0.0.0/8: 2")
	is(t, "with others between", Expand(entries("2001::/16: 3", "::/0 from 1::/16: 7", "2001::/16: 1", "::/0 from 1::/16: 2", "2001::/16: 3", "1::/16: 4", "::/0 from 1::/16: 9")...),
		"::/0 from 1::/16: 7", "1::/16: 4", "1::/16 from 1::/16: 4", "2001::/16: 3", "2001::/16 from 1::/16: 3")
}

func TestExpandTakesIfAndHopAsTheyAre(t *testing.T) { // P19.1
	for _, e := range []api.Entry{
		{Pair: pair("::/0 from 2001::/16")}, {Pair: pair("::/0 from 2001::/16"), If: math.MinInt}, {Pair: pair("::/0 from 2001::/16"), If: -1, Hop: api.Addr{0: 255, 15: 255}},
		{Pair: pair("::/0 from 2001::/16"), If: math.MaxInt, Hop: pair("10.0.0.0/8").Dst.A},
	} {
		inner := e
		inner.Pair = pair("2001::/16 from 2001:db8::/32")
		inner.If, inner.Hop = 3, hop(4)
		added := e
		added.Pair.Dst = inner.Pair.Dst
		if got, want := Expand(inner, e), []api.Entry{e, added, inner}; !slices.Equal(got, want) {
			t.Errorf("%v, want %v", got, want)
		}
	}
}

func TestExpandTouchesNothingThatIsHandedIn(t *testing.T) { // rule 3
	l := entries("2001:db8::/32: 3", "2001:db8::/32: 4", "::/0 from 2001::/16: 1", "2001::/16 from 2001:db8::/32: 2", "10.0.0.0/8: 5", "11.0.0.0/8: 6")
	kept := slices.Clone(l)
	got := Expand(l[:5]...)
	want := slices.Clone(got)
	if !slices.Equal(l, kept) {
		t.Error("the argument is another one", l)
	}
	clear(l)
	if !slices.Equal(got, want) {
		t.Error("the answer shares the argument", got)
	}
	again := Expand(kept[:5]...)
	for _, a := range [][]api.Entry{got, again} {
		_ = append(a, kept...)
		clear(a[:cap(a)])
	}
	if got = Expand(kept[:5]...); !slices.Equal(got, want) {
		t.Error("the answer shares what is kept", got)
	}
}

func TestExpandTwiceIsExpandOnce(t *testing.T) { // P19.1: what is added means the same
	r := rand.New(rand.NewSource(191))
	for range 2000 {
		once := Expand(some(r, r.Intn(12))...)
		if twice := Expand(once...); !slices.Equal(twice, once) {
			t.Fatalf("%v, then %v", told(once), told(twice))
		}
	}
}

func TestExpandOfVeryMany(t *testing.T) { // P19.1
	const many = 300
	var l []api.Entry
	for n := range many {
		p := api.Prefix{A: api.Addr{0: 0x20, 1: byte(n >> 8), 2: byte(n)}, Len: 24}
		l = append(l, api.Entry{Pair: api.Pair{Dst: p}, If: n}, api.Entry{Pair: api.Pair{Src: p}, If: many + n})
	}
	got := Expand(l...)
	if len(got) != many+many*(many+1) {
		t.Fatal(len(got))
	}
	for k, e := range got {
		want := (k - many) / (many + 1)
		if k < many {
			want = many + k
		}
		if e.If != want {
			t.Fatalf("entry %d is %v, want If %d", k, e, want)
		}
	}
}

func TestExpandOfALongChain(t *testing.T) { // P19.1
	var l []api.Entry
	for n := range 129 {
		p, _ := addr.Of(api.Addr{0: 0xff, 15: 0xff}, n)
		src, _ := addr.Of(api.Addr{0: 0x20}, 128-n)
		l = append(l, api.Entry{Pair: api.Pair{Dst: p, Src: src}, If: n})
	}
	got := Expand(l...)
	if len(got) != 129*130/2 {
		t.Fatal(len(got))
	}
	for _, e := range got {
		// An entry's Src is as much shorter as its Dst is longer, so that the longest Dst's covers all of the others'.
		if e.If != e.Pair.Dst.Len {
			t.Fatal(e)
		}
	}
}
