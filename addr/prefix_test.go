package addr

import (
	"math"
	"math/rand"
	"net/netip"
	"testing"

	"culvert/api"
)

// bit tells a bit of an address, one by one: the slow way to what cut does by bytes.
func bit(a api.Addr, i int) byte {
	return a[i/8] >> (7 - i%8) & 1
}

// somePrefix makes prefixes that Check takes, from few addresses, so that some cover others.
func somePrefix(r *rand.Rand) api.Prefix {
	a := api.Addr{0: byte(r.Intn(2)) * 128}
	if r.Intn(2) == 0 {
		a = api.Addr{10: 0xff, 11: 0xff, 12: byte(r.Intn(2) * 10), 13: byte(r.Intn(4) * 64)}
	}
	bits := []int{0, 1, 2, 7, 8, 9, 10, 15, 16, 24, 31, 32}[r.Intn(12)]
	p, e := Of(a, bits)
	if e != api.OK {
		panic("Of refused its own family's bits")
	}
	return p
}

func TestComparePrefix(t *testing.T) { // P2.4
	rising := []api.Prefix{{Len: -1}, {}, {Len: 1}, {Len: 128}, {A: api.Addr{15: 1}, Len: 0}, {A: api.Addr{15: 1}, Len: 128}, {A: api.Addr{10: 0xff, 11: 0xff}, Len: 96}, {A: api.Addr{0: 1}, Len: 8}, {A: api.Addr{0: 1}, Len: math.MaxInt}, {A: api.Addr{0: 200}, Len: math.MinInt}}
	for i, p := range rising {
		for j, q := range rising {
			want := 0
			if i < j {
				want = -1
			} else if i > j {
				want = 1
			}
			if got := ComparePrefix(p, q); got != want {
				t.Errorf("ComparePrefix(%v, %v) = %d, want %d", p, q, got, want)
			}
		}
	}
}

func TestCheck(t *testing.T) { // P2.5
	full := api.Addr{}
	for i := range full {
		full[i] = 255
	}
	for _, c := range []struct {
		p    api.Prefix
		want api.Errno
	}{
		{api.Prefix{}, api.OK},
		{api.Prefix{Len: 128}, api.OK},
		{api.Prefix{A: full, Len: 128}, api.OK},
		{api.Prefix{A: full, Len: 127}, api.ErrPrefix},
		{api.Prefix{A: full, Len: 0}, api.ErrPrefix},
		{api.Prefix{Len: 129}, api.ErrPrefix},
		{api.Prefix{Len: -1}, api.ErrPrefix},
		{api.Prefix{Len: math.MaxInt}, api.ErrPrefix},
		{api.Prefix{Len: math.MinInt}, api.ErrPrefix},
		{api.Prefix{A: api.Addr{10: 0xff, 11: 0xff}, Len: 96}, api.OK},
		{api.Prefix{A: api.Addr{10: 0xff, 11: 0xff}, Len: 95}, api.ErrPrefix},
		{api.Prefix{A: api.Addr{10: 0xff, 11: 0xff, 12: 10}, Len: 104}, api.OK},
		{api.Prefix{A: api.Addr{10: 0xff, 11: 0xff, 12: 10}, Len: 103}, api.OK},
		{api.Prefix{A: api.Addr{10: 0xff, 11: 0xff, 12: 10}, Len: 102}, api.ErrPrefix},
		{api.Prefix{A: api.Addr{10: 0xff, 11: 0xff, 12: 10, 15: 1}, Len: 104}, api.ErrPrefix},
	} {
		if got := Check(c.p); got != c.want {
			t.Errorf("Check(%v) = %d, want %d", c.p, got, c.want)
		}
	}
}

func TestCheckLooksAtEachBit(t *testing.T) { // P2.5
	for i := range 128 {
		var a api.Addr
		a[i/8] = 128 >> (i % 8)
		for n := 0; n <= 128; n++ {
			want := api.OK
			if i >= n {
				want = api.ErrPrefix
			}
			if got := Check(api.Prefix{A: a, Len: n}); got != want {
				t.Fatalf("bit %d, Len %d: Check = %d, want %d", i, n, got, want)
			}
		}
	}
}

func TestOfTakesTheFirstBits(t *testing.T) { // P2.5
	v4 := api.Addr{10: 0xff, 11: 0xff, 12: 10, 13: 1, 14: 2, 15: 255}
	v6 := api.Addr{0: 0x20, 1: 0x01, 2: 0xff, 3: 0xff, 15: 1}
	for _, c := range []struct {
		a    api.Addr
		bits int
		want api.Prefix
		e    api.Errno
	}{
		{v4, 0, api.Prefix{A: api.Addr{10: 0xff, 11: 0xff}, Len: 96}, api.OK},
		{v4, 8, api.Prefix{A: api.Addr{10: 0xff, 11: 0xff, 12: 10}, Len: 104}, api.OK},
		{v4, 16, api.Prefix{A: api.Addr{10: 0xff, 11: 0xff, 12: 10, 13: 1}, Len: 112}, api.OK},
		{v4, 31, api.Prefix{A: api.Addr{10: 0xff, 11: 0xff, 12: 10, 13: 1, 14: 2, 15: 254}, Len: 127}, api.OK},
		{v4, 32, api.Prefix{A: v4, Len: 128}, api.OK},
		{v4, 33, api.Prefix{}, api.ErrArg},
		{v4, 96, api.Prefix{}, api.ErrArg},
		{v4, 128, api.Prefix{}, api.ErrArg},
		{v4, -1, api.Prefix{}, api.ErrArg},
		{v4, -96, api.Prefix{}, api.ErrArg},
		{v6, 0, api.Prefix{}, api.OK},
		{v6, 3, api.Prefix{A: api.Addr{0: 0x20}, Len: 3}, api.OK},
		{v6, 20, api.Prefix{A: api.Addr{0: 0x20, 1: 0x01, 2: 0xf0}, Len: 20}, api.OK},
		{v6, 33, api.Prefix{A: api.Addr{0: 0x20, 1: 0x01, 2: 0xff, 3: 0xff}, Len: 33}, api.OK},
		{v6, 128, api.Prefix{A: v6, Len: 128}, api.OK},
		{v6, 129, api.Prefix{}, api.ErrArg},
		{v6, -1, api.Prefix{}, api.ErrArg},
		{v6, math.MaxInt, api.Prefix{}, api.ErrArg},
		{v6, math.MinInt, api.Prefix{}, api.ErrArg},
		{v4, math.MaxInt, api.Prefix{}, api.ErrArg},
		{v4, math.MinInt, api.Prefix{}, api.ErrArg},
	} {
		if p, e := Of(c.a, c.bits); p != c.want || e != c.e {
			t.Errorf("Of(%v, %d) = %v, %d", c.a, c.bits, p, e)
		}
	}
}

func TestAny(t *testing.T) { // P2.5
	if p := Any(api.V4); p != (api.Prefix{A: api.Addr{10: 0xff, 11: 0xff}, Len: 96}) {
		t.Error("of V4:", p)
	}
	for _, family := range []int{api.V6, 0, 5, -4, 46, math.MaxInt, math.MinInt} {
		if p := Any(family); p != (api.Prefix{}) {
			t.Errorf("Any(%d) = %v", family, p)
		}
	}
	for family, s := range map[int]string{api.V4: "10.2.3.4", api.V6: "2001:db8::1"} {
		if p, e := Of(address(t, s), 0); p != Any(family) || e != api.OK {
			t.Error(s, p, e)
		}
	}
}

func TestPrefixFamily(t *testing.T) { // P2.5
	mapped := api.Addr{10: 0xff, 11: 0xff}
	for _, c := range []struct {
		p    api.Prefix
		want int
	}{
		{api.Prefix{A: mapped, Len: 96}, api.V4},
		{api.Prefix{A: mapped, Len: 128}, api.V4},
		{api.Prefix{A: mapped, Len: 129}, api.V4},
		{api.Prefix{A: mapped, Len: 95}, api.V6},
		{api.Prefix{A: mapped, Len: 0}, api.V6},
		{api.Prefix{A: mapped, Len: -1}, api.V6},
		{api.Prefix{}, api.V6},
		{api.Prefix{Len: 96}, api.V6},
		{api.Prefix{Len: 128}, api.V6},
		{api.Prefix{A: api.Addr{0: 0x20}, Len: 128}, api.V6},
	} {
		if got := PrefixFamily(c.p); got != c.want {
			t.Errorf("PrefixFamily(%v) = %d, want %d", c.p, got, c.want)
		}
	}
}

func TestPrintPrefix(t *testing.T) { // P2.6
	for _, c := range []struct {
		p    api.Prefix
		want string
	}{
		{api.Prefix{}, "::/0"},
		{api.Prefix{Len: 96}, "::/96"},
		{api.Prefix{Len: 128}, "::/128"},
		{api.Prefix{A: api.Addr{0: 0x20, 1: 0x01, 2: 0x0d, 3: 0xb8}, Len: 32}, "2001:db8::/32"},
		{api.Prefix{A: api.Addr{10: 0xff, 11: 0xff}, Len: 96}, "0.0.0.0/0"},
		{api.Prefix{A: api.Addr{10: 0xff, 11: 0xff, 12: 10}, Len: 104}, "10.0.0.0/8"},
		{api.Prefix{A: api.Addr{10: 0xff, 11: 0xff, 12: 10, 15: 1}, Len: 128}, "10.0.0.1/32"},
		{api.Prefix{A: api.Addr{10: 0xff, 11: 0xfe}, Len: 96}, "::fffe:0:0/96"},
		{api.Prefix{A: api.Addr{10: 0xff, 11: 0xff}, Len: 95}, ""},
		{api.Prefix{A: api.Addr{10: 0xff, 11: 0xff, 12: 10, 15: 1}, Len: 104}, ""},
		{api.Prefix{A: api.Addr{15: 1}, Len: 127}, ""},
		{api.Prefix{Len: -1}, ""},
		{api.Prefix{Len: 129}, ""},
		{api.Prefix{Len: math.MaxInt}, ""},
	} {
		if got := PrintPrefix(c.p); got != c.want {
			t.Errorf("PrintPrefix(%v) = %q, want %q", c.p, got, c.want)
		}
	}
}

func TestParsePrefix(t *testing.T) { // P2.6
	for s, want := range map[string]api.Prefix{
		"::/0":             {},
		"::/128":           {Len: 128},
		"::/96":            {Len: 96},
		"2001:DB8::/32":    {A: api.Addr{0: 0x20, 1: 0x01, 2: 0x0d, 3: 0xb8}, Len: 32},
		"8000::/1":         {A: api.Addr{0: 0x80}, Len: 1},
		"::1/128":          {A: api.Addr{15: 1}, Len: 128},
		"0.0.0.0/0":        {A: api.Addr{10: 0xff, 11: 0xff}, Len: 96},
		"10.0.0.0/8":       {A: api.Addr{10: 0xff, 11: 0xff, 12: 10}, Len: 104},
		"10.0.0.1/32":      {A: api.Addr{10: 0xff, 11: 0xff, 12: 10, 15: 1}, Len: 128},
		"::ffff:0:0/96":    {A: api.Addr{10: 0xff, 11: 0xff}, Len: 96},
		"::ffff:a00:0/104": {A: api.Addr{10: 0xff, 11: 0xff, 12: 10}, Len: 104},
		"::ffff:a00:1/128": {A: api.Addr{10: 0xff, 11: 0xff, 12: 10, 15: 1}, Len: 128},
		"128.0.0.0/1":      {A: api.Addr{10: 0xff, 11: 0xff, 12: 128}, Len: 97},
		"::ffff:0:0:0/80":  {A: api.Addr{8: 0xff, 9: 0xff}, Len: 80},
		"255.255.255.0/24": {A: api.Addr{10: 0xff, 11: 0xff, 12: 255, 13: 255, 14: 255}, Len: 120},
	} {
		if p, e := ParsePrefix(s); p != want || e != api.OK {
			t.Errorf("ParsePrefix(%q) = %v, %d", s, p, e)
		}
	}
}

func TestParsePrefixRefuses(t *testing.T) { // P2.6
	for s, want := range map[string]api.Errno{
		"":                 api.ErrAddr,
		"/":                api.ErrAddr,
		"::":               api.ErrAddr,
		"10.0.0.0":         api.ErrAddr,
		"::/":              api.ErrAddr,
		"/8":               api.ErrAddr,
		"::/01":            api.ErrAddr,
		"::/00":            api.ErrAddr,
		"10.0.0.0/08":      api.ErrAddr,
		"::/0000":          api.ErrAddr,
		"::/1000":          api.ErrAddr,
		"10.0.0.0/1000":    api.ErrAddr,
		"::/-1":            api.ErrAddr,
		"::/+1":            api.ErrAddr,
		"::/a":             api.ErrAddr,
		"::/0x1":           api.ErrAddr,
		"::/ 1":            api.ErrAddr,
		"::/1 ":            api.ErrAddr,
		" ::/1":            api.ErrAddr,
		":: /1":            api.ErrAddr,
		"::/0/0":           api.ErrAddr,
		"::/0/":            api.ErrAddr,
		"::g/200":          api.ErrAddr,
		"01.0.0.0/33":      api.ErrAddr,
		"1.0.0/8":          api.ErrAddr,
		"::ffff:1.2.3.4/0": api.ErrAddr,
		"10.0.0.0/33":      api.ErrPrefix,
		"10.0.0.0/96":      api.ErrPrefix,
		"10.0.0.0/104":     api.ErrPrefix,
		"10.0.0.0/128":     api.ErrPrefix,
		"10.0.0.0/999":     api.ErrPrefix,
		"::/129":           api.ErrPrefix,
		"::/999":           api.ErrPrefix,
		"10.0.0.1/8":       api.ErrPrefix,
		"10.0.0.1/31":      api.ErrPrefix,
		"1.0.0.0/0":        api.ErrPrefix,
		"::1/127":          api.ErrPrefix,
		"::1/0":            api.ErrPrefix,
		"::ffff:a00:0/8":   api.ErrPrefix,
		"::ffff:0:0/95":    api.ErrPrefix,
		"::ffff:0:0/0":     api.ErrPrefix,
	} {
		if p, e := ParsePrefix(s); p != (api.Prefix{}) || e != want {
			t.Errorf("ParsePrefix(%q) = %v, %d, want %d", s, p, e, want)
		}
	}
	for _, s := range wrongAddresses() {
		if p, e := ParsePrefix(s + "/0"); p != (api.Prefix{}) || e != api.ErrAddr {
			t.Errorf("ParsePrefix(%.40q and /0) = %v, %d", s, p, e)
		}
	}
}

func TestContains(t *testing.T) { // P2.7
	for _, c := range []struct {
		p    string
		a    string
		want bool
	}{
		{"10.0.0.0/8", "10.255.1.2", true},
		{"10.0.0.0/8", "11.0.0.0", false},
		{"10.0.0.0/8", "a00::", false},
		{"10.1.2.3/32", "10.1.2.3", true},
		{"10.1.2.3/32", "10.1.2.2", false},
		{"0.0.0.0/0", "255.255.255.255", true},
		{"0.0.0.0/0", "::1", false},
		{"::/0", "ffff::1", true},
		{"::/0", "10.0.0.1", true},
		{"::/80", "10.0.0.1", true},
		{"::/96", "10.0.0.1", false},
		{"2001:db8::/33", "2001:db8:7fff::1", true},
		{"2001:db8::/33", "2001:db8:8000::1", false},
	} {
		p, e := ParsePrefix(c.p)
		if got := Contains(p, address(t, c.a)); e != api.OK || got != c.want {
			t.Errorf("Contains(%s, %s) = %v, want %v", c.p, c.a, got, c.want)
		}
	}
}

// refused are prefixes that Check does not take, of which some would hold all addresses if only the bits were looked at.
func refused() []api.Prefix {
	return []api.Prefix{{Len: -1}, {Len: 129}, {Len: math.MinInt}, {Len: math.MaxInt}, {A: api.Addr{15: 1}, Len: 127}, {A: api.Addr{15: 1}}, {A: api.Addr{10: 0xff, 11: 0xff}, Len: 95}}
}

func TestNoPrefixThatMayNotBeHasAnything(t *testing.T) { // P2.7
	for _, p := range refused() {
		if Contains(p, p.A) || Contains(p, api.Addr{}) {
			t.Errorf("%v contains an address", p)
		}
		if Covers(p, p) || Covers(p, api.Prefix{Len: 128}) || Covers(api.Prefix{}, p) {
			t.Errorf("%v is covered, or covers", p)
		}
	}
}

func TestContainsLooksAtEachBit(t *testing.T) { // P2.7
	r := rand.New(rand.NewSource(7))
	for range 20000 {
		a, b := someAddr(r), someAddr(r)
		n := r.Intn(129)
		if r.Intn(2) == 0 { // else hardly ever alike in more than a few bits
			b = a
			k := r.Intn(128)
			b[k/8] ^= 128 >> (k % 8)
		}
		p := api.Prefix{A: a, Len: n}
		p.A = cut(a, n)
		want := true
		for i := range n {
			want = want && bit(a, i) == bit(b, i)
		}
		if got := Contains(p, b); got != want {
			t.Fatalf("Contains(%v, %v) = %v, want %v", p, b, got, want)
		}
		if lib := netip.PrefixFrom(netip.AddrFrom16(p.A), n); Family(p.A) == api.V6 && Family(b) == api.V6 && lib.Contains(netip.AddrFrom16(b)) != want {
			t.Fatalf("the library says otherwise of %v and %v", p, b)
		}
	}
}

func TestCovers(t *testing.T) { // P2.7
	for _, c := range []struct {
		p, q string
		want bool
	}{
		{"10.0.0.0/8", "10.0.0.0/8", true},
		{"10.0.0.0/8", "10.1.0.0/16", true},
		{"10.1.0.0/16", "10.0.0.0/8", false},
		{"10.0.0.0/16", "10.0.0.0/8", false},
		{"10.0.0.0/8", "11.0.0.0/16", false},
		{"0.0.0.0/0", "10.0.0.0/8", true},
		{"0.0.0.0/0", "::/0", false},
		{"::/0", "0.0.0.0/0", true},
		{"::/0", "::/0", true},
		{"2001:db8::/32", "2001:db8:1::/48", true},
		{"2001:db8::/32", "2001:db9::/48", false},
	} {
		p, e := ParsePrefix(c.p)
		q, f := ParsePrefix(c.q)
		if got := Covers(p, q); e != api.OK || f != api.OK || got != c.want {
			t.Errorf("Covers(%s, %s) = %v, want %v", c.p, c.q, got, c.want)
		}
	}
}

func TestParsePrefixReadsWhatPrintPrefixWrites(t *testing.T) { // P2.11
	r := rand.New(rand.NewSource(11))
	for range 20000 {
		p := api.Prefix{A: someAddr(r), Len: r.Intn(129)}
		p.A = cut(p.A, p.Len)
		if q, e := ParsePrefix(PrintPrefix(p)); q != p || e != api.OK {
			t.Fatalf("ParsePrefix(%q) = %v, %d, want %v", PrintPrefix(p), q, e, p)
		}
	}
}

// first and last are the least and the greatest address of a prefix.
func first(p api.Prefix) api.Addr { return p.A }

func last(p api.Prefix) api.Addr {
	a := p.A
	for i := p.Len; i < 128; i++ {
		a[i/8] |= 128 >> (i % 8)
	}
	return a
}

func TestPrefixesAreATree(t *testing.T) { // P2.12
	r := rand.New(rand.NewSource(12))
	for range 30000 {
		p, q, s := somePrefix(r), somePrefix(r), somePrefix(r)
		apart := Compare(last(p), first(q)) < 0 || Compare(last(q), first(p)) < 0
		if apart == (Covers(p, q) || Covers(q, p)) {
			t.Fatalf("%v and %v: apart %v, covers %v, %v", p, q, apart, Covers(p, q), Covers(q, p))
		}
		for _, a := range []api.Addr{first(p), last(p), first(q), last(q)} {
			if apart && Contains(p, a) && Contains(q, a) {
				t.Fatalf("%v is in %v and in %v", a, p, q)
			}
		}
		if Covers(p, q) && !(Contains(p, first(q)) && Contains(p, last(q))) {
			t.Fatalf("%v covers %v and has not all of it", p, q)
		}
		if !Covers(p, p) {
			t.Fatalf("%v does not cover itself", p)
		}
		if Covers(p, q) && Covers(q, p) && p != q {
			t.Fatalf("%v and %v cover each other", p, q)
		}
		if Covers(p, q) && Covers(q, s) && !Covers(p, s) {
			t.Fatalf("%v covers %v, that covers %v", p, q, s)
		}
	}
}
