package addr

import (
	"math/rand"
	"net/netip"
	"strings"
	"testing"

	"culvert/api"
)

// address takes its bytes from the library, so that a test of Print does not lean on Parse.
func address(t *testing.T, s string) api.Addr {
	t.Helper()
	a, err := netip.ParseAddr(s)
	if err != nil {
		t.Fatal(err)
	}
	return a.As16()
}

// someAddr makes addresses with many zero groups and, one in four, the mapped part.
func someAddr(r *rand.Rand) api.Addr {
	var a api.Addr
	for i := 0; i < len(a); i += 2 {
		switch r.Intn(4) {
		case 0:
			a[i], a[i+1] = byte(r.Intn(256)), byte(r.Intn(256))
		case 1:
			a[i+1] = byte(r.Intn(256))
		}
	}
	if r.Intn(4) == 0 {
		mapped := api.Addr{10: 0xff, 11: 0xff}
		copy(a[:12], mapped[:12])
	}
	return a
}

func TestFamilyIsToldByTheMappedPart(t *testing.T) { // P2.1
	for _, c := range []struct {
		a    api.Addr
		want int
	}{
		{api.Addr{}, api.V6},
		{api.Addr{10: 0xff, 11: 0xff}, api.V4},
		{api.Addr{10: 0xff, 11: 0xff, 12: 255, 13: 255, 14: 255, 15: 255}, api.V4},
		{api.Addr{10: 0xff, 11: 0xfe, 12: 10}, api.V6},
		{api.Addr{10: 0xfe, 11: 0xff, 12: 10}, api.V6},
		{api.Addr{12: 10, 15: 1}, api.V6},
		{api.Addr{0: 0x20, 1: 0x01}, api.V6},
	} {
		if got := Family(c.a); got != c.want {
			t.Errorf("Family(%v) = %d, want %d", c.a, got, c.want)
		}
	}
	for i := range 10 {
		a := api.Addr{10: 0xff, 11: 0xff, 12: 1}
		a[i] = 1
		if got := Family(a); got != api.V6 {
			t.Errorf("byte %d is not 0: Family = %d", i, got)
		}
	}
}

func TestParseReadsPoints(t *testing.T) { // P2.2
	for s, want := range map[string]api.Addr{
		"0.0.0.0":         {10: 0xff, 11: 0xff},
		"10.0.0.1":        {10: 0xff, 11: 0xff, 12: 10, 15: 1},
		"1.20.255.200":    {10: 0xff, 11: 0xff, 12: 1, 13: 20, 14: 255, 15: 200},
		"255.255.255.255": {10: 0xff, 11: 0xff, 12: 255, 13: 255, 14: 255, 15: 255},
	} {
		a, e := Parse(s)
		if a != want || e != api.OK {
			t.Errorf("Parse(%q) = %v, %d", s, a, e)
		}
		if Family(a) != api.V4 {
			t.Errorf("Parse(%q) is of family %d", s, Family(a))
		}
	}
}

func TestParseReadsGroups(t *testing.T) { // P2.2
	for s, want := range map[string]api.Addr{
		"::":                      {},
		"0:0:0:0:0:0:0:0":         {},
		"::1":                     {15: 1},
		"1::":                     {1: 1},
		"1::2":                    {1: 1, 15: 2},
		"1:2:3:4:5:6:7:8":         {1: 1, 3: 2, 5: 3, 7: 4, 9: 5, 11: 6, 13: 7, 15: 8},
		"::2:3:4:5:6:7:8":         {3: 2, 5: 3, 7: 4, 9: 5, 11: 6, 13: 7, 15: 8},
		"1:2:3:4:5:6:7::":         {1: 1, 3: 2, 5: 3, 7: 4, 9: 5, 11: 6, 13: 7},
		"1:2:3::5:6:7:8":          {1: 1, 3: 2, 5: 3, 9: 5, 11: 6, 13: 7, 15: 8},
		"2001:DB8::aBcD":          {0: 0x20, 1: 0x01, 2: 0x0d, 3: 0xb8, 14: 0xab, 15: 0xcd},
		"0001:000f:F:00f:0::ffff": {1: 1, 3: 15, 5: 15, 7: 15, 14: 255, 15: 255},
		"::ffff:102:304":          {10: 0xff, 11: 0xff, 12: 1, 13: 2, 14: 3, 15: 4},
		"0:0:0:0:0:ffff:a00:1":    {10: 0xff, 11: 0xff, 12: 10, 15: 1},
	} {
		a, e := Parse(s)
		if a != want || e != api.OK {
			t.Errorf("Parse(%q) = %v, %d", s, a, e)
		}
	}
	a, _ := Parse("::ffff:102:304")
	if Family(a) != api.V4 {
		t.Error("an IPv4 address written in groups is one of IPv4")
	}
}

// wrongAddresses are refused wherever an address is asked for.
func wrongAddresses() []string {
	return []string{
		"", " ", "a", "10", "..", "...", "1.2.3", "1.2.3.", ".1.2.3", "1..2.3", "1.2.3.4.", ".1.2.3.4", "1.2.3.4.5",
		"01.2.3.4", "1.00.3.4", "1.2.3.04", "256.0.0.1", "1.2.3.256", "1.2.3.999", "1.2.3.1000", "1.2.3.65536", "1.2.3.18446744073709551616",
		"-1.2.3.4", "+1.2.3.4", "1.2.3.a", "1.2.3.4 ", " 1.2.3.4", "1.2. 3.4", "0x1.2.3.4", "1_0.2.3.4", "١.2.3.4", "1.2.3.4\x00",
		":", ":::", "::::", ":::1", "1:::", "1:::2", "1::2::3", "::1::", "::1:", ":1::", "1:", ":1", "1:2:3:4:5:6:7", "1:2:3:4:5:6:7:", ":2:3:4:5:6:7:8",
		"1:2:3:4:5:6:7:8:", ":1:2:3:4:5:6:7:8", "1:2:3:4:5:6:7:8:9", "1:2:3:4:5:6:7::8", "::1:2:3:4:5:6:7:8", "1:2:3:4:5:6:7:8::", "1:2:3:4:5:6:7:8::9", "1:2:3:4:5:6:7:8::1:2:3:4:5:6:7:8",
		"12345::", "::12345", "::00001", "::g", "::G", "+1::", "-1::", "::+1", "1_0::", "::0x1", " ::", ":: ", "1: :2", "::1%eth0", "[::1]", "::\x00",
		"::1.2.3.4", "::ffff:1.2.3.4", "1.2.3.4::", "1.2:3.4", "::1/128", "10.0.0.1/8",
		strings.Repeat("1:", 100000) + "1", strings.Repeat("1.", 100000) + "1", strings.Repeat("::", 100000), strings.Repeat("1", 100000),
	}
}

func TestParseRefuses(t *testing.T) { // P2.2
	for _, s := range wrongAddresses() {
		a, e := Parse(s)
		if a != (api.Addr{}) || e != api.ErrAddr {
			t.Errorf("Parse(%.40q) = %v, %d", s, a, e)
		}
	}
}

func TestPrint(t *testing.T) { // P2.3
	for s, want := range map[string]string{
		"10.0.0.1":                     "10.0.0.1",
		"::ffff:0:0":                   "0.0.0.0",
		"255.255.255.255":              "255.255.255.255",
		"::fffe:102:304":               "::fffe:102:304",
		"::102:304":                    "::102:304",
		"::":                           "::",
		"::1":                          "::1",
		"1::":                          "1::",
		"2001:0DB8:0:0:1:0:0:1":        "2001:db8::1:0:0:1",
		"1:0:0:2:0:0:0:3":              "1:0:0:2::3",
		"1:0:0:0:2:0:0:3":              "1::2:0:0:3",
		"1:0:0:2:3:4:0:0":              "1::2:3:4:0:0",
		"1:2:3:4:0:5:0:0":              "1:2:3:4:0:5::",
		"0:0:1:2:3:0:0:0":              "0:0:1:2:3::",
		"0:1:2:3:4:5:6:7":              "0:1:2:3:4:5:6:7",
		"1:2:3:0:4:5:6:0":              "1:2:3:0:4:5:6:0",
		"0:1:0:2:0:3:0:4":              "0:1:0:2:0:3:0:4",
		"0:0:3:4:5:6:7:8":              "::3:4:5:6:7:8",
		"00AB:0C0:0d00:e000:ff:F0:1:0": "ab:c0:d00:e000:ff:f0:1:0",
		"ffff:ffff:ffff:ffff:ffff:ffff:ffff:ffff": "ffff:ffff:ffff:ffff:ffff:ffff:ffff:ffff",
	} {
		if got := Print(address(t, s)); got != want {
			t.Errorf("Print of %s = %q, want %q", s, got, want)
		}
	}
}

func TestPrintIsTheLibrarys(t *testing.T) { // P2.3
	r := rand.New(rand.NewSource(3))
	for range 20000 {
		a := someAddr(r)
		if got, want := Print(a), netip.AddrFrom16(a).Unmap().String(); got != want {
			t.Fatalf("Print(%v) = %q, want %q", a, got, want)
		}
	}
}

func TestCompare(t *testing.T) { // P2.4
	rising := []api.Addr{{}, {15: 1}, {15: 255}, {14: 1}, {10: 0xff, 11: 0xff, 12: 1}, {1: 1}, {0: 1}, {0: 127, 15: 1}, {0: 128}, {0: 255}}
	for i, a := range rising {
		for j, b := range rising {
			want := 0
			if i < j {
				want = -1
			} else if i > j {
				want = 1
			}
			if got := Compare(a, b); got != want {
				t.Errorf("Compare(%v, %v) = %d, want %d", a, b, got, want)
			}
		}
	}
}

func TestParseReadsWhatPrintWrites(t *testing.T) { // P2.11
	r := rand.New(rand.NewSource(11))
	for range 20000 {
		a := someAddr(r)
		if b, e := Parse(Print(a)); b != a || e != api.OK {
			t.Fatalf("Parse(%q) = %v, %d, want %v", Print(a), b, e, a)
		}
	}
}

// TestParseIsTheLibrarys puts texts together from pieces: the library reads the same ones, but for IPv4 with points in groups, and zones.
func TestParseIsTheLibrarys(t *testing.T) { // P2.2
	r := rand.New(rand.NewSource(2))
	pieces := []string{"0", "1", "12", "255", "256", "ff", "FfFf", "00", "10000", ".", ".", ".", ":", ":", ":", ":", "::", "1:2:3:4", "1.2", "-", " "}
	read := 0
	for range 400000 {
		var b strings.Builder
		for range 1 + r.Intn(9) {
			b.WriteString(pieces[r.Intn(len(pieces))])
		}
		s := b.String()
		want, err := netip.ParseAddr(s)
		ok := err == nil && !(strings.Contains(s, ":") && strings.Contains(s, "."))
		a, e := Parse(s)
		if ok != (e == api.OK) || ok && a != want.As16() || !ok && (e != api.ErrAddr || a != api.Addr{}) {
			t.Fatalf("Parse(%q) = %v, %d; the library: %v, %v", s, a, e, want, err)
		}
		if ok {
			read++
		}
	}
	if read < 1000 {
		t.Fatal("only", read, "of the texts were addresses")
	}
}
