package conf

import (
	"strconv"

	"culvert/addr"
	"culvert/api"
	"culvert/words"
)

// chains are the words for the chains, each at its number.
func chains() []string {
	return []string{api.ChainIn: "in", api.ChainOut: "out", api.ChainRedistribute: "redistribute", api.ChainInstall: "install"}
}

// ParseRule reads a rule from the words behind filter (P9.6).
func ParseRule(words ...string) (api.Rule, api.Errno) {
	var r api.Rule
	l := &line{words: words}
	r.Chain = take(l, api.ErrWord, oneOf(chains()...))
	readers, said := ruleReaders(l, &r), map[string]int{}
	for l.more() {
		l.attribute(readers, said)
	}
	switch {
	case l.err != api.OK:
		return api.Rule{}, l.err
	case said["allow"]+said["deny"]+said["add"] == 0:
		return api.Rule{}, api.ErrWord
	case said["ge"]+said["le"] > 0 && !r.HasDst:
		return api.Rule{}, api.ErrWord
	case said["if"] > 0 && !isName(r.If): // CheckRule would take "" for no if at all
		return api.Rule{}, api.ErrValue
	}
	if r.HasDst && said["ge"] == 0 {
		r.Ge, _ = bits(r.Dst)
	}
	if said["le"] == 0 {
		r.Le = r.Ge
	}
	if e := CheckRule(r); e != api.OK {
		return api.Rule{}, e
	}
	return r, api.OK
}

// ruleReaders leads from an attribute of a rule to what reads it. What the rule does is the last: no word stands behind it.
func ruleReaders(l *line, r *api.Rule) map[string]func() {
	return map[string]func(){
		"if":    func() { r.If = l.text() },
		"dst":   func() { r.Dst, r.HasDst = l.prefix(), true },
		"ge":    func() { r.Ge = l.number() },
		"le":    func() { r.Le = l.number() },
		"src":   func() { r.Src, r.HasSrc = l.prefix(), true },
		"id":    func() { r.Id = l.id() },
		"allow": l.end,
		"deny": func() {
			r.Deny = true
			l.end()
		},
		"add": func() {
			r.Add = l.number()
			l.end()
		},
	}
}

// PrintRule writes a rule so that ParseRule reads it again, word by word (P9.6).
func PrintRule(r api.Rule) string {
	if CheckRule(r) != api.OK {
		return ""
	}
	l := []string{chains()[r.Chain]}
	if r.If != "" {
		l = append(l, "if", r.If)
	}
	if r.HasDst {
		l = append(l, "dst", addr.PrintPrefix(r.Dst), "ge", strconv.Itoa(r.Ge), "le", strconv.Itoa(r.Le))
	}
	if r.HasSrc {
		l = append(l, "src", addr.PrintPrefix(r.Src))
	}
	if r.Id != (api.RouterId{}) {
		l = append(l, "id", words.PrintId(r.Id))
	}
	switch {
	case r.Deny:
		l = append(l, "deny")
	case r.Add > 0:
		l = append(l, "add", strconv.Itoa(r.Add))
	default:
		l = append(l, "allow")
	}
	return words.Join(l...)
}
