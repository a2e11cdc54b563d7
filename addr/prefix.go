package addr

import (
	"cmp"
	"strconv"
	"strings"

	"culvert/api"
)

const (
	allBits    = 128
	mappedBits = 96 // of the mapped part: the bits of IPv4 stand behind it
)

// cut answers a with zeros behind its first n bits, n from 0 to 128.
func cut(a api.Addr, n int) api.Addr {
	var out api.Addr
	whole, odd := n/8, n%8
	copy(out[:], a[:whole])
	if odd > 0 {
		out[whole] = a[whole] &^ (0xff >> odd)
	}
	return out
}

// Check tells whether p may be (P2.5).
func Check(p api.Prefix) api.Errno {
	if p.Len < 0 || p.Len > allBits || cut(p.A, p.Len) != p.A {
		return api.ErrPrefix
	}
	return api.OK
}

// Of answers the prefix of a's family with the first bits of a: of V4 they are counted behind the mapped part (P2.5).
func Of(a api.Addr, bits int) (api.Prefix, api.Errno) {
	ahead := 0
	if Family(a) == api.V4 {
		ahead = mappedBits
	}
	if bits < 0 || bits > allBits-ahead {
		return api.Prefix{}, api.ErrArg
	}
	return api.Prefix{A: cut(a, ahead+bits), Len: ahead + bits}, api.OK
}

// Any answers the prefix of all addresses of a family (P2.5).
func Any(family int) api.Prefix {
	if family == api.V4 {
		return api.Prefix{A: api.Addr{10: 0xff, 11: 0xff}, Len: mappedBits}
	}
	return api.Prefix{} // ::/0; and none, if family is no family
}

// PrefixFamily tells V4 of a prefix that has the whole mapped part, else V6 (P2.5).
func PrefixFamily(p api.Prefix) int {
	if p.Len >= mappedBits && Family(p.A) == api.V4 {
		return api.V4
	}
	return api.V6
}

// ParsePrefix reads an address, / and how many bits (P2.6).
func ParsePrefix(s string) (api.Prefix, api.Errno) {
	text, digits, _ := strings.Cut(s, "/")
	a, e := Parse(text)
	n, ok := number(digits)
	if e != api.OK || !ok {
		return api.Prefix{}, api.ErrAddr
	}
	p := api.Prefix{A: a, Len: n}
	if !inGroups(text) { // how it is written tells, not the family: an IPv4 address in groups has the number as Len
		p.Len += mappedBits
	}
	if e := Check(p); e != api.OK {
		return api.Prefix{}, e
	}
	return p, api.OK
}

// PrintPrefix writes a prefix so that ParsePrefix reads it again (P2.6).
func PrintPrefix(p api.Prefix) string {
	if Check(p) != api.OK {
		return ""
	}
	if PrefixFamily(p) == api.V4 {
		return Print(p.A) + "/" + strconv.Itoa(p.Len-mappedBits)
	}
	return printGroups(p.A) + "/" + strconv.Itoa(p.Len)
}

// Contains tells whether a begins with p's bits (P2.7).
func Contains(p api.Prefix, a api.Addr) bool {
	return Check(p) == api.OK && cut(a, p.Len) == p.A
}

// Covers tells whether p has all that q has (P2.7).
func Covers(p, q api.Prefix) bool {
	return Check(q) == api.OK && p.Len <= q.Len && Contains(p, q.A)
}

// ComparePrefix orders prefixes by their addresses, then by Len (P2.4).
func ComparePrefix(p, q api.Prefix) int {
	return cmp.Or(Compare(p.A, q.A), cmp.Compare(p.Len, q.Len))
}
