package conf

import (
	"math/rand"
	"slices"
	"strconv"
	"strings"
	"testing"

	"culvert/addr"
	"culvert/api"
	"culvert/words"
)

// hand reads lines beside Parse: it first says what kind of word must stand at each place, and then goes over the places.
type hand struct {
	words []string
	at    int
	err   api.Errno
}

// next answers the next word, and whether there is one and all ahead of it was right.
func (h *hand) next() (string, bool) {
	if h.err != 0 {
		return "", false
	}
	if h.at == len(h.words) {
		h.err = 90
		return "", false
	}
	h.at++
	return h.words[h.at-1], true
}

func (h *hand) wrong(bad bool, e api.Errno) {
	if bad && h.err == 0 {
		h.err = e
	}
}

func (h *hand) num() int {
	s, ok := h.next()
	if !ok {
		return 0
	}
	n, err := strconv.Atoi(s)
	h.wrong(err != nil || strconv.Itoa(n) != s || n < 0 || n > 9999999, 91)
	return n
}

func (h *hand) id() (id api.RouterId) {
	if s, ok := h.next(); ok {
		id, ok = words.ParseId(s)
		h.wrong(!ok, 91)
	}
	return id
}

func (h *hand) addr() (a api.Addr) {
	if s, ok := h.next(); ok {
		var e api.Errno
		a, e = addr.Parse(s)
		h.wrong(e != 0, 91)
	}
	return a
}

func (h *hand) prefix() (p api.Prefix) {
	if s, ok := h.next(); ok {
		var e api.Errno
		p, e = addr.ParsePrefix(s)
		h.wrong(e != 0, 91)
	}
	return p
}

func (h *hand) ruleByHand() (r api.Rule) {
	chain, ok := h.next()
	r.Chain = slices.Index([]string{"in", "out", "redistribute", "install"}, chain)
	h.wrong(ok && r.Chain < 0, 90)
	var said []string
	done, noName := false, false
	for !done && h.err == 0 {
		word, ok := h.next()
		if !ok {
			break
		}
		h.wrong(slices.Contains(said, word), 92)
		said = append(said, word)
		switch word {
		case "if":
			r.If, _ = h.next()
			noName = r.If == ""
		case "dst":
			r.Dst, r.HasDst = h.prefix(), true
		case "src":
			r.Src, r.HasSrc = h.prefix(), true
		case "ge":
			r.Ge = h.num()
		case "le":
			r.Le = h.num()
		case "id":
			r.Id = h.id()
		case "allow", "deny":
			r.Deny, done = word == "deny", true
		case "add":
			r.Add, done = h.num(), true
		default:
			h.wrong(true, 90)
		}
	}
	h.wrong(h.at < len(h.words), 90)
	ge, le := slices.Contains(said, "ge"), slices.Contains(said, "le")
	h.wrong((ge || le) && !r.HasDst, 90)
	bits := r.Dst.Len
	if r.HasDst && strings.Contains(addr.PrintPrefix(r.Dst), ".") {
		bits -= 96
	}
	if r.HasDst && !ge {
		r.Ge = bits
	}
	if r.HasDst && !le {
		r.Le = r.Ge
	}
	h.wrong(noName || !ruleMayBeByHand(r), 91)
	return r
}

func ruleMayBeByHand(r api.Rule) bool {
	if r.Chain < 0 || r.Chain > 3 || len(r.If) > 15 || strings.Trim(r.If, letters) != "" || r.Add < 0 || r.Add > 65535 || r.Deny && r.Add != 0 {
		return false
	}
	if !r.HasSrc && r.Src != (api.Prefix{}) || r.HasSrc && addr.PrintPrefix(r.Src) == "" {
		return false
	}
	if !r.HasDst {
		return r.Dst == api.Prefix{} && r.Ge == 0 && r.Le == 0
	}
	text := addr.PrintPrefix(r.Dst)
	bits, most := r.Dst.Len, 128
	if strings.Contains(text, ".") {
		bits, most = bits-96, 32
	}
	return text != "" && bits <= r.Ge && r.Ge <= r.Le && r.Le <= most
}

const letters = "abcdefghijklmnopqrstuvwxyzABCDEFGHIJKLMNOPQRSTUVWXYZ0123456789._-"

func (h *hand) ifByHand(c *api.Config, bare *int) {
	f := api.IfConf{Hello: 4000, Update: 16000, Mtu: 1280}
	f.Name, _ = h.next()
	switch kind, ok := h.next(); kind {
	case "wired":
		f.Cost = 96
	case "wireless":
		f.Kind, f.Cost = 1, 256
	default:
		h.wrong(ok, 90)
	}
	var said []string
	for h.err == 0 && h.at < len(h.words) {
		word, _ := h.next()
		h.wrong(slices.Contains(said, word), 92)
		said = append(said, word)
		switch word {
		case "cost":
			f.Cost = h.num()
		case "hello":
			f.Hello = h.num()
		case "update":
			f.Update = h.num()
		case "mtu":
			f.Mtu = h.num()
		case "address":
			f.Addr = h.addr()
		case "address4":
			f.Addr4 = h.addr()
		case "rtt":
			f.Rtt = api.Rtt{On: true, Min: h.num(), Max: h.num(), Cost: h.num(), Decay: h.num()}
		default:
			h.wrong(true, 90)
		}
	}
	if !slices.Contains(said, "address") {
		*bare++
	}
	c.Ifs = append(c.Ifs, f)
}

func (h *hand) announceByHand(c *api.Config) {
	if len(h.words) == 1 {
		h.wrong(true, 90)
		return
	}
	text := h.words[1]
	h.at = 2
	if len(h.words) > 2 && h.words[2] == "from" {
		h.at = 3
		src, _ := h.next()
		text += " from " + src
	}
	p, e := addr.ParsePair(text)
	h.wrong(e != 0, 91)
	word, ok := h.next()
	h.wrong(ok && word != "metric", 90)
	c.Locals = append(c.Locals, api.Local{Pair: p, Metric: h.num()})
	h.wrong(h.at < len(h.words), 90)
}

// parseByHand takes the lines of a text that words.Lines takes.
func parseByHand(text string) (api.Config, api.Errno, int) {
	c := api.Config{Neighbours: 256, Sources: 1024, Routes: 1024, Requests: 256}
	var said []string
	bare := 0
	lines, _, _ := words.Lines(text)
	for _, l := range lines {
		h := &hand{words: l.Words, at: 1}
		switch l.Words[0] {
		case "router-id":
			h.wrong(slices.Contains(said, "router-id"), 92)
			said = append(said, "router-id")
			c.Id = h.id()
			h.wrong(h.at < len(h.words), 90)
		case "interface":
			h.ifByHand(&c, &bare)
		case "filter":
			h = &hand{words: l.Words[1:]}
			c.Rules = append(c.Rules, h.ruleByHand())
		case "announce":
			h.announceByHand(&c)
		case "limit":
			what, _ := h.next()
			room := map[string]*int{"neighbours": &c.Neighbours, "sources": &c.Sources, "routes": &c.Routes, "requests": &c.Requests}[what]
			h.wrong(room == nil, 90)
			h.wrong(slices.Contains(said, what), 92)
			said = append(said, what)
			if n := h.num(); room != nil {
				*room = n
			}
			h.wrong(h.at < len(h.words), 90)
		default:
			h.wrong(true, 90)
		}
		if h.err != 0 {
			return api.Config{}, h.err, l.N
		}
	}
	if !slices.Contains(said, "router-id") || len(c.Ifs) == 0 || bare > 0 {
		return api.Config{}, 93, 0
	}
	if e := checkByHand(c); e != 0 {
		return api.Config{}, e, 0
	}
	return c, 0, 0
}

// checkByHand puts what is wrong down in the document's order, and tells the first.
func checkByHand(c api.Config) api.Errno {
	var l []api.Errno
	put := func(bad bool, e api.Errno) {
		if bad {
			l = append(l, e)
		}
	}
	id := words.PrintId(c.Id)
	put(id == zeroId || id == otherId, 91)
	put(len(c.Ifs) < 1, 93)
	put(len(c.Ifs) > 16 || len(c.Rules) > 256 || len(c.Locals) > 256, 6)
	names := map[string]int{}
	for _, f := range c.Ifs {
		put(f.Name == "" || len(f.Name) > 15 || strings.Trim(f.Name, letters) != "" || f.Kind*f.Kind != f.Kind || f.Cost < 1 || f.Cost > 65534, 91)
		put(f.Hello < 10 || f.Hello > 655350 || f.Hello%10 > 0 || f.Update < 10 || f.Update > 655350 || f.Update%10 > 0 || f.Mtu < 64 || f.Mtu > 65539, 91)
		put(string(f.Addr[:8]) != "\xfe\x80\x00\x00\x00\x00\x00\x00", 91)
		put(f.Addr4 != api.Addr{} && string(f.Addr4[:12]) != "\x00\x00\x00\x00\x00\x00\x00\x00\x00\x00\xff\xff", 91)
		r := f.Rtt
		put(!r.On && (r.Min != 0 || r.Max != 0 || r.Cost != 0 || r.Decay != 0), 91)
		put(r.On && (r.Min < 0 || r.Max <= r.Min || r.Max > 1000000 || r.Cost < 1 || r.Cost > 65534 || r.Decay < 1 || r.Decay > 256), 91)
		names[f.Name]++
		put(names[f.Name] > 1, 92)
	}
	for _, r := range c.Rules {
		put(!ruleMayBeByHand(r), 91)
	}
	pairs := map[api.Pair]int{}
	for _, a := range c.Locals {
		put(addr.PrintPair(a.Pair) == "" || a.Metric < 0 || a.Metric > 65534, 91)
		pairs[a.Pair]++
		put(pairs[a.Pair] > 1, 92)
	}
	for _, n := range []int{c.Neighbours, c.Sources, c.Routes, c.Requests} {
		put(n < 1 || n > 4096, 91)
	}
	return append(l, 0)[0]
}

// one picks a word; those that stand ahead come oftener.
func one(r *rand.Rand, l ...string) string {
	return l[min(r.Intn(len(l)), r.Intn(len(l)))]
}

func someNumber(r *rand.Rand, usual ...string) string {
	return one(r, append(usual, "1", "10", "100", "64", "0", "256", "65534", "65535", "9999999", "10000000", "01", "x")...)
}

func somePrefix(r *rand.Rand) string {
	return one(r, "10.0.0.0/8", "::/0", "2001:db8::/32", "0.0.0.0/0", "10.1.0.0/16", "1::/16", "::1/128", "10.0.0.1/32", "::ffff:0:0/96", "10.0.0.1/8", "x", "::/129", "")
}

func someId(r *rand.Rand) string {
	return one(r, idText, "00:00:00:00:00:00:00:01", "fe:00:00:00:00:00:00:01", idText, zeroId, otherId, "1")
}

func someAttribute(r *rand.Rand) []string {
	switch r.Intn(7) {
	case 0:
		return []string{"cost", someNumber(r)}
	case 1:
		return []string{"hello", someNumber(r, "4000", "20", "655350")}
	case 2:
		return []string{"update", someNumber(r, "16000", "20", "655350")}
	case 3:
		return []string{"mtu", someNumber(r, "1280", "64", "65539")}
	case 4:
		return []string{"address4", one(r, "10.0.0.1", "10.0.0.2", "0.0.0.0", "::", "::1", "x")}
	case 5:
		return []string{"rtt", someNumber(r, "5", "6"), someNumber(r, "60", "70", "1000000"), someNumber(r, "30"), someNumber(r, "40")}
	}
	return []string{"address", one(r, "fe80::1", "fe80::2", "fe80::3", "::", "x")}
}

func someRule(r *rand.Rand) []string {
	l := []string{one(r, "in", "out", "redistribute", "install", "in", "x")}
	var parts [][]string
	if r.Intn(2) == 0 {
		parts = append(parts, []string{"if", one(r, "e0", "e1", "w0", "if", "", "a/b", "1234567890123456")})
	}
	if r.Intn(2) == 0 {
		parts = append(parts, []string{"dst", somePrefix(r)})
		for _, what := range []string{"ge", "le"} {
			if r.Intn(2) == 0 {
				parts = append(parts, []string{what, someNumber(r, "24", "16", "32", "64", "128", "8")})
			}
		}
	}
	if r.Intn(3) == 0 {
		parts = append(parts, []string{"src", somePrefix(r)})
	}
	if r.Intn(3) == 0 {
		parts = append(parts, []string{"id", someId(r)})
	}
	if r.Intn(30) == 0 {
		parts = append(parts, []string{one(r, "ge", "le", "if", "dst", "id"), one(r, "8", "::/0", "e0")})
	}
	r.Shuffle(len(parts), func(i, j int) { parts[i], parts[j] = parts[j], parts[i] })
	l = append(l, slices.Concat(parts...)...)
	if r.Intn(2) == 0 {
		return append(l, one(r, "allow", "deny"))
	}
	return append(l, "add", someNumber(r, "5", "77"))
}

func someIf(r *rand.Rand, name string) []string {
	l := []string{"interface", one(r, name, name, name, name, "e0", "", "a b", "1234567890123456"), one(r, "wired", "wireless")}
	parts := [][]string{{"address", one(r, "fe80::1", "fe80::2", "fe80::1", "fe80::2", "fe80::3", "fe80:1::1")}}
	if r.Intn(12) == 0 {
		parts = nil
	}
	for range r.Intn(3) {
		if a := someAttribute(r); !slices.ContainsFunc(parts, func(p []string) bool { return p[0] == a[0] }) || r.Intn(30) == 0 {
			parts = append(parts, a)
		}
	}
	r.Shuffle(len(parts), func(i, j int) { parts[i], parts[j] = parts[j], parts[i] })
	return append(l, slices.Concat(parts...)...)
}

func someLine(r *rand.Rand, n int) []string {
	switch r.Intn(5) {
	case 0:
		return someIf(r, "e"+strconv.Itoa(n))
	case 1, 2:
		return append([]string{"filter"}, someRule(r)...)
	case 3:
		l := []string{"announce", somePrefix(r)}
		if r.Intn(2) == 0 {
			l = append(l, "from", somePrefix(r))
		}
		return append(l, "metric", someNumber(r, "5"))
	}
	return []string{"limit", one(r, "neighbours", "sources", "routes", "requests", "x"), someNumber(r, "5", "4096", "4097")}
}

// shake drops, doubles, swaps or changes a word.
func shake(r *rand.Rand, l []string) []string {
	if len(l) == 0 {
		return l
	}
	i, j := r.Intn(len(l)), r.Intn(len(l))
	switch r.Intn(4) {
	case 0:
		return slices.Delete(l, i, i+1)
	case 1:
		return slices.Insert(l, i, l[j])
	case 2:
		l[i], l[j] = l[j], l[i]
	default:
		l[i] = one(r, "cost", "allow", "from", "metric", "if", "dst", "address", "rtt", "5", "x", "")
	}
	return l
}

func someText(r *rand.Rand) string {
	var l [][]string
	l = append(l, []string{"router-id", someId(r)}, someIf(r, "e0"))
	for n := range r.Intn(6) {
		l = append(l, someLine(r, n+1))
	}
	if r.Intn(3) == 0 {
		i := r.Intn(len(l))
		l[i] = shake(r, slices.Clone(l[i]))
	}
	if r.Intn(20) == 0 {
		l = append(l, l[r.Intn(len(l))])
	}
	if r.Intn(10) == 0 {
		l = slices.Delete(l, 0, r.Intn(3))
	}
	r.Shuffle(len(l), func(i, j int) { l[i], l[j] = l[j], l[i] })
	text := ""
	for _, w := range l {
		text += strings.Repeat("\n", r.Intn(2)) + words.Join(w...) + "\n"
	}
	return text
}

func TestParseOfManyTexts(t *testing.T) { // P9.4, P9.8, P9.9
	r := rand.New(rand.NewSource(1))
	count := map[api.Errno]int{}
	for range 40000 {
		text := someText(r)
		c, e, at := Parse(text)
		want, wantE, wantAt := parseByHand(text)
		if e != wantE || at != wantAt || !equal(c, want) {
			t.Fatalf("Parse(%s) = %+v, %d, %d, want %+v, %d, %d", text, c, e, at, want, wantE, wantAt)
		}
		count[e]++
		if e != api.OK {
			continue
		}
		if Check(c) != api.OK {
			t.Fatalf("Parse(%s) tells what Check refuses", text)
		}
		if d, e, at := Parse(Print(c)); e != api.OK || at != 0 || !Same(c, d) || !equal(c, d) {
			t.Fatalf("Parse of Print(%+v) = %+v, %d, %d", c, d, e, at)
		}
	}
	for _, e := range []api.Errno{api.OK, api.ErrWord, api.ErrValue, api.ErrTwice, api.ErrWithout} {
		if count[e] < 200 {
			t.Errorf("only %d of %d: %v", count[e], e, count)
		}
	}
}

func TestParseRuleOfManyWords(t *testing.T) { // P9.6, P9.8
	r := rand.New(rand.NewSource(2))
	count := map[api.Errno]int{}
	for range 60000 {
		l := someRule(r)
		for r.Intn(3) == 0 {
			l = shake(r, l)
		}
		rule, e := ParseRule(l...)
		h := &hand{words: l}
		want := h.ruleByHand()
		if h.err != 0 {
			want = api.Rule{}
		}
		if rule != want || e != h.err {
			t.Fatalf("ParseRule(%q) = %+v, %d, want %+v, %d", l, rule, e, want, h.err)
		}
		count[e]++
		if e != api.OK {
			continue
		}
		again, _ := words.Words(PrintRule(rule))
		if back, e := ParseRule(again...); back != rule || e != api.OK || CheckRule(rule) != api.OK {
			t.Fatalf("ParseRule(%q) = %+v, %d, want %+v", again, back, e, rule)
		}
	}
	for _, e := range []api.Errno{api.OK, api.ErrWord, api.ErrValue, api.ErrTwice} {
		if count[e] < 500 {
			t.Errorf("only %d of %d: %v", count[e], e, count)
		}
	}
}

// spoilOne changes a field of a configuration to something that may be at the edge, or beyond.
func spoilOne(r *rand.Rand, c *api.Config) {
	n := []int{-1, 0, 1, 2, 3, 4, 9, 10, 15, 63, 64, 128, 129, 256, 257, 4096, 4097, 65534, 65535, 65536, 65539, 65540, 655350, 655360, 1000000, 1000001}[r.Intn(26)]
	f, rule, a := &c.Ifs[r.Intn(len(c.Ifs))], &c.Rules[r.Intn(len(c.Rules))], &c.Locals[r.Intn(len(c.Locals))]
	numbers := []*int{&f.Kind, &f.Cost, &f.Hello, &f.Update, &f.Mtu, &f.Rtt.Min, &f.Rtt.Max, &f.Rtt.Cost, &f.Rtt.Decay, &rule.Chain, &rule.Ge, &rule.Le, &rule.Add, &rule.Dst.Len, &rule.Src.Len, &a.Metric, &a.Pair.Dst.Len, &c.Neighbours, &c.Sources, &c.Routes, &c.Requests}
	bools := []*bool{&f.Rtt.On, &rule.HasDst, &rule.HasSrc, &rule.Deny}
	switch r.Intn(4) {
	case 0:
		b := bools[r.Intn(len(bools))]
		*b = !*b
	case 1:
		f.Name = []string{"e0", "", "a/b", "123456789012345", "1234567890123456"}[r.Intn(5)]
	case 2:
		a.Pair = c.Locals[0].Pair
	default:
		*numbers[r.Intn(len(numbers))] = n
	}
}

func TestCheckOfManyConfigurations(t *testing.T) { // P9.2, P9.3, P9.8
	r := rand.New(rand.NewSource(3))
	count := map[api.Errno]int{}
	for range 30000 {
		c := sample(t)
		for range 1 + r.Intn(3) {
			spoilOne(r, &c)
		}
		e := Check(c)
		if want := checkByHand(c); e != want {
			t.Fatalf("Check(%+v) = %d, want %d", c, e, want)
		}
		count[e]++
		if d, e2, _ := Parse(Print(c)); e == api.OK && (e2 != api.OK || !equal(c, d)) {
			t.Fatalf("Parse of Print(%+v) = %+v, %d", c, d, e2)
		}
		for _, rule := range c.Rules {
			if (CheckRule(rule) == api.OK) != ruleMayBeByHand(rule) {
				t.Fatalf("CheckRule(%+v) = %d", rule, CheckRule(rule))
			}
		}
	}
	if count[api.OK] < 1000 || count[api.ErrValue] < 1000 || count[api.ErrTwice] < 500 {
		t.Errorf("too few of one kind: %v", count)
	}
}
