package filter

import (
	"math"
	"math/rand"
	"strconv"
	"strings"
	"testing"

	"culvert/addr"
	"culvert/api"
	"culvert/conf"
)

// asBits writes a prefix as its bits, so that one covers another whose text begins with its own.
func asBits(p api.Prefix) string {
	s := ""
	for _, b := range p.A {
		s += strconv.FormatInt(256+int64(b), 2)[1:]
	}
	return s[:p.Len]
}

// mapped is the bits that an address of IPv4 begins with.
var mapped = strings.Repeat("0", 80) + strings.Repeat("1", 16)

// matchesByHand looks for what keeps a rule from matching.
func matchesByHand(r api.Rule, chain int, name string, p api.Pair, id api.RouterId) bool {
	if chain != r.Chain {
		return false
	}
	if r.If != "" && name != r.If {
		return false
	}
	if r.HasDst {
		own, theirs := asBits(r.Dst), asBits(p.Dst)
		if !strings.HasPrefix(theirs, own) {
			return false
		}
		if strings.HasPrefix(own, mapped) != strings.HasPrefix(theirs, mapped) {
			return false
		}
		if n := len(strings.TrimPrefix(theirs, mapped)); n < r.Ge || n > r.Le {
			return false
		}
	}
	if r.HasSrc && !strings.HasPrefix(asBits(p.Src), asBits(r.Src)) {
		return false
	}
	return string(r.Id[:]) == "\x00\x00\x00\x00\x00\x00\x00\x00" || string(r.Id[:]) == string(id[:])
}

// metricByHand goes from the last rule to the first, each of which that matches undoes what those behind it made.
func metricByHand(chain int, name string, p api.Pair, id api.RouterId, metric uint16, l []api.Rule) (m uint16, at int, ok bool) {
	m = metric
	for i := len(l) - 1; i >= 0; i-- {
		if !matchesByHand(l[i], chain, name, p, id) {
			continue
		}
		at, ok = i, true
		m = uint16(min(int(metric)+l[i].Add, 65535))
		if l[i].Deny {
			m = 65535
		}
	}
	return m, at, ok
}

// somePrefix makes prefixes with few bits that differ, so that one often covers another.
func somePrefix(r *rand.Rand, v4 bool) api.Prefix {
	var p api.Prefix
	if v4 {
		p = api.Prefix{A: api.Addr{10: 255, 11: 255, 12: byte(r.Intn(2) << 7), 13: byte(r.Intn(2))}, Len: 96 + r.Intn(33)}
	} else {
		p = api.Prefix{A: api.Addr{0: byte(r.Intn(2) << 7), 5: byte(r.Intn(2)), 11: byte(r.Intn(2))}, Len: r.Intn(129)}
	}
	for i := p.Len; i < 128; i++ {
		p.A[i/8] &^= 128 >> (i % 8)
	}
	return p
}

func somePair(r *rand.Rand) api.Pair {
	v4 := r.Intn(2) == 0
	return api.Pair{Dst: somePrefix(r, v4), Src: somePrefix(r, v4)}
}

func someId(r *rand.Rand) api.RouterId {
	return api.RouterId{7: byte(1 + r.Intn(2))}
}

func someRule(r *rand.Rand) api.Rule {
	var out api.Rule
	out.Chain = r.Intn(2)
	if r.Intn(3) == 0 {
		out.If = []string{"e0", "e1"}[r.Intn(2)]
	}
	if r.Intn(2) == 0 {
		out.HasDst, out.Dst = true, somePrefix(r, r.Intn(2) == 0)
		if r.Intn(2) == 0 {
			out.Dst = addr.Any([]int{api.V4, api.V6}[r.Intn(2)])
		}
		has, most := out.Dst.Len, 128
		if strings.HasPrefix(asBits(out.Dst), mapped) {
			has, most = has-96, 32
		}
		out.Ge = has + r.Intn(most-has+1)/(1+r.Intn(3))
		out.Le = most - r.Intn(most-out.Ge+1)/(1+r.Intn(3))
	}
	if r.Intn(3) == 0 {
		out.HasSrc, out.Src = true, somePrefix(r, r.Intn(2) == 0)
		out.Src.Len /= 1 + r.Intn(4)
		for i := out.Src.Len; i < 128; i++ {
			out.Src.A[i/8] &^= 128 >> (i % 8)
		}
	}
	if r.Intn(3) == 0 {
		out.Id = someId(r)
	}
	switch r.Intn(3) {
	case 0:
		out.Deny = true
	case 1:
		out.Add = []int{1, 7, 100, 32768, 65534, 65535}[r.Intn(6)]
	}
	return out
}

func TestManyRules(t *testing.T) { // P10.1 to P10.5
	r := rand.New(rand.NewSource(1))
	matched, places := 0, map[int]int{}
	for range 60000 {
		var l []api.Rule
		for range r.Intn(6) {
			l = append(l, someRule(r))
		}
		chain, name, p, id := r.Intn(2), []string{"e0", "e1"}[r.Intn(2)], somePair(r), someId(r)
		metric := []uint16{0, 1, 50, 32767, 32768, 65434, 65527, 65528, 65533, 65534, 65535}[r.Intn(11)]
		if addr.CheckPair(p) != api.OK {
			continue
		}
		for _, rule := range l {
			if conf.CheckRule(rule) != api.OK {
				t.Fatalf("%+v is no rule", rule)
			}
			want := matchesByHand(rule, chain, name, p, id)
			if got := Matches(rule, chain, name, p, id); got != want {
				t.Fatalf("%s, of chain %d, at %s, of %s, of %v: %v", conf.PrintRule(rule), chain, name, addr.PrintPair(p), id, got)
			}
			if want {
				matched++
			}
		}
		want, wantAt, wantOk := metricByHand(chain, name, p, id, metric, l)
		at, ok := Which(chain, name, p, id, l...)
		if at != wantAt || ok != wantOk {
			t.Fatalf("Which of %+v: %d, %v, want %d, %v", l, at, ok, wantAt, wantOk)
		}
		got := Metric(chain, name, p, id, metric, l...)
		if got != want || got < metric {
			t.Fatalf("Metric of %+v, of %d: %d, want %d", l, metric, got, want)
		}
		if ok { // P10.4: what stands behind has no part, nor what is of another chain
			places[at]++
			if m := Metric(chain, name, p, id, metric, l[:at+1]...); m != got {
				t.Fatalf("without those behind: %d, not %d", m, got)
			}
			var own []api.Rule
			for _, rule := range l {
				if rule.Chain == chain {
					own = append(own, rule)
				}
			}
			if m := Metric(chain, name, p, id, metric, own...); m != got {
				t.Fatalf("without those of other chains: %d, not %d", m, got)
			}
		}
	}
	if matched < 5000 || places[0] < 1000 || places[3] < 100 {
		t.Errorf("too few matched: %d, %v", matched, places)
	}
}

// Nothing is said of rules and pairs that may not be, but that each call ends.
func TestWhatMayNotBe(t *testing.T) { // rule 1
	numbers := []int{math.MinInt, -1, 0, 1, 32, 33, 96, 128, 129, 65535, 65536, math.MaxInt}
	r := rand.New(rand.NewSource(2))
	number := func() int { return numbers[r.Intn(len(numbers))] }
	prefix := func() api.Prefix {
		p := somePrefix(r, r.Intn(2) == 0)
		if r.Intn(2) == 0 {
			p.Len = number()
		}
		return p
	}
	for range 50000 {
		rule := api.Rule{Chain: number() & 3, If: []string{"", "/", "e0"}[r.Intn(3)], HasDst: r.Intn(2) == 0, Dst: prefix(), Ge: number(), Le: number(), HasSrc: r.Intn(2) == 0, Src: prefix(), Deny: r.Intn(2) == 0, Add: number()}
		p := api.Pair{Dst: prefix(), Src: prefix()}
		ok := Matches(rule, rule.Chain, "e0", p, one)
		at, found := Which(rule.Chain, "e0", p, one, rule, rule)
		if at != 0 || found != ok {
			t.Fatalf("Matches of %+v, of %+v: %v; Which: %d, %v", rule, p, ok, at, found)
		}
		if m := Metric(rule.Chain, "e0", p, one, 50, rule); !ok && m != 50 {
			t.Fatalf("it does not match, and makes %d", m)
		}
	}
}
