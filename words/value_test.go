package words

import (
	"math"
	"math/rand"
	"strconv"
	"strings"
	"testing"

	"culvert/api"
)

func TestNumberIsDecimal(t *testing.T) { // P8.4
	for _, c := range []struct {
		s    string
		most int
		want int
	}{
		{"0", 0, 0},
		{"0", 9, 0},
		{"1", 1, 1},
		{"7", 9, 7},
		{"9", 9, 9},
		{"10", 10, 10},
		{"10", 11, 10},
		{"65534", 65534, 65534},
		{"1234567890", math.MaxInt, 1234567890},
		{"2147483647", 2147483647, 2147483647},
		{"2147483648", math.MaxInt, 2147483648},
		{"4294967296", math.MaxInt, 4294967296},
		{"9999999999", math.MaxInt, 9999999999},
		{"9999999999", 9999999999, 9999999999},
		{"9999999", 9999999, 9999999},
	} {
		if n, ok := Number(c.s, c.most); n != c.want || !ok {
			t.Errorf("Number(%q, %d) = %d, %v", c.s, c.most, n, ok)
		}
	}
}

func TestNumberIsNotAboveMost(t *testing.T) { // P8.4
	for _, c := range []struct {
		s    string
		most int
	}{
		{"1", 0}, {"10", 9}, {"11", 10}, {"65535", 65534}, {"10000000", 9999999}, {"9999999999", 9999999998}, {"4294967296", 0}, {"4294967297", 1}, {"9999999999", 1410065407},
		{"0", -1}, {"1", -1}, {"0", math.MinInt}, {"9999999999", math.MinInt}, {"9999999999", -1},
	} {
		if n, ok := Number(c.s, c.most); n != 0 || ok {
			t.Errorf("Number(%q, %d) = %d, %v", c.s, c.most, n, ok)
		}
	}
}

func TestNumberOfWhatIsNone(t *testing.T) { // P8.4
	for _, s := range []string{
		"", " ", "00", "01", "007", "0000000000", "0000000001", "00000000001", "10000000000", "12345678901", "99999999999", "18446744073709551617",
		"-", "+", "-0", "+0", "-1", "+1", "--1", "1-", "1+1", " 1", "1 ", "1 0", "1_0", "1.0", "1e3", "0x1", "0b1", "x", "1a", "a1", "12345678a", "123456789:", "/", ":", "1/", "1:",
		"1\x00", "\xff", "1\n", "١", "１", strings.Repeat("1", 100000), strings.Repeat("0", 100000),
	} {
		for _, most := range []int{-1, 0, 9, 9999999, math.MaxInt} {
			if n, ok := Number(s, most); n != 0 || ok {
				t.Errorf("Number(%.20q, %d) = %d, %v", s, most, n, ok)
			}
		}
	}
}

func TestNumberTakesWhatIsWrittenSo(t *testing.T) { // P8.4: each text of three bytes that matter, and each number up to an edge
	digits := "0129+-_ax. /:"
	for i := range len(digits) * len(digits) * len(digits) {
		s := string([]byte{digits[i%len(digits)], digits[i/len(digits)%len(digits)], digits[i/len(digits)/len(digits)]})
		v, err := strconv.Atoi(s)
		right := err == nil && strconv.Itoa(v) == s && v >= 0
		if !right {
			v = 0
		}
		if n, ok := Number(s, 999); n != v || ok != right {
			t.Errorf("Number(%q, 999) = %d, %v", s, n, ok)
		}
	}
	for v := range 2000 {
		n, ok := Number(strconv.Itoa(v), 1024)
		if ok != (v <= 1024) || ok && n != v || !ok && n != 0 {
			t.Errorf("Number(%d, 1024) = %d, %v", v, n, ok)
		}
	}
}

func TestIdsAreWrittenInPairs(t *testing.T) { // P8.5
	for s, id := range map[string]api.RouterId{
		"00:00:00:00:00:00:00:00": {},
		"ff:ff:ff:ff:ff:ff:ff:ff": {255, 255, 255, 255, 255, 255, 255, 255},
		"00:01:02:03:04:05:06:ff": {0, 1, 2, 3, 4, 5, 6, 255},
		"01:23:45:67:89:ab:cd:ef": {0x01, 0x23, 0x45, 0x67, 0x89, 0xab, 0xcd, 0xef},
		"fe:dc:ba:98:76:54:32:10": {0xfe, 0xdc, 0xba, 0x98, 0x76, 0x54, 0x32, 0x10},
		"0a:a0:0f:f0:09:90:10:01": {0x0a, 0xa0, 0x0f, 0xf0, 0x09, 0x90, 0x10, 0x01},
	} {
		if got := PrintId(id); got != s {
			t.Errorf("PrintId(%v) = %s, want %s", id, got, s)
		}
		if got, ok := ParseId(s); got != id || !ok {
			t.Errorf("ParseId(%s) = %v, %v", s, got, ok)
		}
	}
}

func TestParseIdOfWhatIsNone(t *testing.T) { // P8.5
	right := "01:23:45:67:89:ab:cd:ef"
	for _, s := range []string{
		"", ":", ":::::::", "01", "01:23:45:67:89:ab:cd", "01:23:45:67:89:ab:cd:", ":01:23:45:67:89:ab:cd", "01:23:45:67:89:ab:cd:ef:", ":01:23:45:67:89:ab:cd:ef", "01:23:45:67:89:ab:cd:ef:01", "23:45:67:89:ab:cd:ef:01:23:45",
		"01:23:45:67:89:AB:CD:EF", "01:23:45:67:89:ab:cd:eF", "01:23:45:67:89:ab:cd:Ef", "0A:23:45:67:89:ab:cd:ef", "01:23:45:67:89:Ab:cd:ef",
		"0123456789abcdef", "01-23-45-67-89-ab-cd-ef", "01.23.45.67.89.ab.cd.ef", "01 23 45 67 89 ab cd ef", "01:23:45:67:89:ab:cd-ef", "01;23:45:67:89:ab:cd:ef",
		"1:23:45:67:89:ab:cd:ef", "1:23:45:67:89:ab:cd:0ef", "001:23:45:67:89:ab:cd:e", "01::23:45:67:89:ab:cd", "01:23:45:67:89:ab:cd:e", "01:23:45:67:89:ab:cd:ef0", "01:23:45:67:89:ab:cd:eg", "g1:23:45:67:89:ab:cd:ef",
		" 1:23:45:67:89:ab:cd:ef", "01:23:45:67:89:ab:cd:e ", " " + right, right + " ", right + "\n", "+1:23:45:67:89:ab:cd:ef", "0x:23:45:67:89:ab:cd:ef", "01:23:45:67:89:ab:cd:\x00\x00", "01:23:45:67:89:ab:cd:é", strings.Repeat(right+":", 10000),
	} {
		if id, ok := ParseId(s); id != (api.RouterId{}) || ok {
			t.Errorf("ParseId(%.40q) = %v, %v", s, id, ok)
		}
	}
	for at := range right { // one byte is another: read only if it is a small digit where one was
		for c := range 256 {
			b := []byte(right)
			b[at] = byte(c)
			want := at%3 == 2 && c == ':' || at%3 != 2 && (c >= '0' && c <= '9' || c >= 'a' && c <= 'f')
			id, ok := ParseId(string(b))
			if ok != want || ok && PrintId(id) != string(b) || !ok && id != (api.RouterId{}) {
				t.Errorf("ParseId(%q) = %v, %v", b, id, ok)
			}
		}
	}
}

func TestIdsThereAndBack(t *testing.T) { // P8.6
	r := rand.New(rand.NewSource(8))
	for range 2000 {
		var id api.RouterId
		r.Read(id[:])
		if got, ok := ParseId(PrintId(id)); got != id || !ok {
			t.Fatalf("ParseId(%s) = %v, %v, want %v", PrintId(id), got, ok, id)
		}
	}
	for v := range 256 {
		for at := range len(api.RouterId{}) {
			var id api.RouterId
			id[at] = byte(v)
			if got, ok := ParseId(PrintId(id)); got != id || !ok {
				t.Fatalf("ParseId(%s) = %v, %v, want %v", PrintId(id), got, ok, id)
			}
		}
	}
}
