package addr

import (
	"cmp"
	"strings"

	"culvert/api"
)

// CheckPair tells whether p may be: two prefixes of one family (P2.8).
func CheckPair(p api.Pair) api.Errno {
	if e := cmp.Or(Check(p.Dst), Check(p.Src)); e != api.OK {
		return e
	}
	if PrefixFamily(p.Dst) != PrefixFamily(p.Src) {
		return api.ErrPrefix
	}
	return api.OK
}

// Specific tells whether it matters where packets come from (P2.8).
func Specific(p api.Pair) bool {
	return p.Src != Any(PrefixFamily(p.Src))
}

// ComparePair orders pairs by Dst, then by Src (P2.4).
func ComparePair(p, q api.Pair) int {
	return cmp.Or(ComparePrefix(p.Dst, q.Dst), ComparePrefix(p.Src, q.Src))
}

// from stands between the two prefixes of a pair's text.
const from = "from"

// ParsePair reads a prefix, or two with from between (P2.9).
func ParsePair(s string) (api.Pair, api.Errno) {
	words := strings.SplitN(s, " ", 4) // a fourth is too many: what lies in it makes no odds
	if !pairWords(words) {
		return api.Pair{}, api.ErrAddr
	}
	dst, e := ParsePrefix(words[0])
	if e != api.OK {
		return api.Pair{}, e
	}
	p := api.Pair{Dst: dst, Src: Any(PrefixFamily(dst))}
	if len(words) == 3 {
		if p.Src, e = ParsePrefix(words[2]); e != api.OK {
			return api.Pair{}, e
		}
	}
	if e := CheckPair(p); e != api.OK {
		return api.Pair{}, e
	}
	return p, api.OK
}

// pairWords tells whether the words stand as in a pair's text, whatever the prefixes are. A blank at the end makes an empty word, which is none.
func pairWords(words []string) bool {
	if len(words) == 1 {
		return true
	}
	return len(words) == 3 && words[1] == from && words[2] != ""
}

// PrintPair writes a pair so that ParsePair reads it again (P2.9).
func PrintPair(p api.Pair) string {
	if CheckPair(p) != api.OK {
		return ""
	}
	if !Specific(p) {
		return PrintPrefix(p.Dst)
	}
	return PrintPrefix(p.Dst) + " " + from + " " + PrintPrefix(p.Src)
}

// Matches tells whether a packet from src to dst is one of p's (P2.10).
func Matches(p api.Pair, src, dst api.Addr) bool {
	return CheckPair(p) == api.OK && Contains(p.Dst, dst) && Contains(p.Src, src)
}

// Best tells the place of the most specific pair of l that matches (P2.10).
func Best(src, dst api.Addr, l ...api.Pair) (int, bool) {
	best, found := 0, false
	for i, p := range l {
		if Matches(p, src, dst) && (!found || longer(p, l[best])) {
			best, found = i, true
		}
	}
	return best, found
}

// longer tells whether p is more specific than q, of two that match one packet: where packets go to tells first.
func longer(p, q api.Pair) bool {
	return cmp.Or(cmp.Compare(p.Dst.Len, q.Dst.Len), cmp.Compare(p.Src.Len, q.Src.Len)) > 0
}
