package conf

import (
	"slices"
	"strings"
	"testing"

	"culvert/addr"
	"culvert/api"
	"culvert/words"
)

const (
	idText  = "00:01:02:03:04:05:06:ff"
	zeroId  = "00:00:00:00:00:00:00:00"
	otherId = "ff:ff:ff:ff:ff:ff:ff:ff"
)

// fields cuts at blanks; a word ” is an empty one.
func fields(s string) []string {
	l := strings.Fields(s)
	for i := range l {
		if l[i] == "''" {
			l[i] = ""
		}
	}
	return l
}

func TestParseRule(t *testing.T) { // P9.6
	id := api.RouterId{0, 1, 2, 3, 4, 5, 6, 255}
	v4, v6 := prefix(t, "10.0.0.0/8"), prefix(t, "2001:db8::/32")
	for s, want := range map[string]api.Rule{
		"in allow":                              {},
		"out allow":                             {Chain: api.ChainOut},
		"redistribute deny":                     {Chain: api.ChainRedistribute, Deny: true},
		"install add 7":                         {Chain: api.ChainInstall, Add: 7},
		"in add 0":                              {},
		"in add 65535":                          {Add: 65535},
		"in if e0 allow":                        {If: "e0"},
		"in if if deny":                         {If: "if", Deny: true},
		"in if deny allow":                      {If: "deny"},
		"in dst 10.0.0.0/8 allow":               {HasDst: true, Dst: v4, Ge: 8, Le: 8},
		"in dst 10.0.0.0/8 ge 9 allow":          {HasDst: true, Dst: v4, Ge: 9, Le: 9},
		"in dst 10.0.0.0/8 le 9 allow":          {HasDst: true, Dst: v4, Ge: 8, Le: 9},
		"in dst 10.0.0.0/8 le 24 ge 16 deny":    {HasDst: true, Dst: v4, Ge: 16, Le: 24, Deny: true},
		"in le 24 ge 16 dst 10.0.0.0/8 deny":    {HasDst: true, Dst: v4, Ge: 16, Le: 24, Deny: true},
		"in le 24 dst 10.0.0.0/8 deny":          {HasDst: true, Dst: v4, Ge: 8, Le: 24, Deny: true},
		"in dst 10.0.0.0/8 ge 32 le 32 deny":    {HasDst: true, Dst: v4, Ge: 32, Le: 32, Deny: true},
		"in dst 0.0.0.0/0 deny":                 {HasDst: true, Dst: addr.Any(api.V4), Deny: true},
		"in dst 0.0.0.0/0 ge 0 le 0 deny":       {HasDst: true, Dst: addr.Any(api.V4), Deny: true},
		"in dst ::ffff:0:0/96 le 32 deny":       {HasDst: true, Dst: addr.Any(api.V4), Le: 32, Deny: true},
		"in dst ::/0 deny":                      {HasDst: true, Deny: true},
		"in dst ::/0 le 128 deny":               {HasDst: true, Le: 128, Deny: true},
		"in dst 2001:db8::/32 ge 48 deny":       {HasDst: true, Dst: v6, Ge: 48, Le: 48, Deny: true},
		"in dst 2001:DB8:0::/32 deny":           {HasDst: true, Dst: v6, Ge: 32, Le: 32, Deny: true},
		"in src ::/0 deny":                      {HasSrc: true, Deny: true},
		"in src 2001:db8::/32 deny":             {HasSrc: true, Src: v6, Deny: true},
		"in src 10.0.0.0/8 dst ::/0 deny":       {HasSrc: true, Src: v4, HasDst: true, Deny: true},
		"in id " + idText + " deny":             {Id: id, Deny: true},
		"in id " + zeroId + " deny":             {Deny: true},
		"out id " + otherId + " allow":          {Chain: 1, Id: repeated(255)},
		"in if 123456789012345 deny":            {If: "123456789012345", Deny: true},
		"out id " + idText + " if e0 add 12345": {Chain: 1, Id: id, If: "e0", Add: 12345},
		"install src 2001:db8::/32 le 30 id " + idText + " dst 10.0.0.0/8 if e0 ge 20 add 1": {Chain: 3, If: "e0", HasDst: true, Dst: v4, Ge: 20, Le: 30, HasSrc: true, Src: v6, Id: id, Add: 1},
	} {
		if r, e := ParseRule(fields(s)...); r != want || e != api.OK {
			t.Errorf("ParseRule(%s) = %+v, %d", s, r, e)
		}
	}
}

func TestParseRuleRefuses(t *testing.T) { // P9.6
	for s, want := range map[string]api.Errno{
		"":                                   api.ErrWord,
		"''":                                 api.ErrWord,
		"In allow":                           api.ErrWord,
		"inn allow":                          api.ErrWord,
		"allow":                              api.ErrWord,
		"0 allow":                            api.ErrWord,
		"filter in allow":                    api.ErrWord,
		"in":                                 api.ErrWord,
		"in if e0":                           api.ErrWord,
		"in x allow":                         api.ErrWord,
		"in '' allow":                        api.ErrWord,
		"in Allow":                           api.ErrWord,
		"in out allow":                       api.ErrWord,
		"in in allow":                        api.ErrWord,
		"in allow allow":                     api.ErrWord,
		"in allow deny":                      api.ErrWord,
		"in deny if e0":                      api.ErrWord,
		"in if e0 allow if e1":               api.ErrWord,
		"in add 5 6":                         api.ErrWord,
		"in add 5 allow":                     api.ErrWord,
		"in allow ''":                        api.ErrWord,
		"in add":                             api.ErrWord,
		"in if":                              api.ErrWord,
		"in dst":                             api.ErrWord,
		"in dst 10.0.0.0/8 ge":               api.ErrWord,
		"in dst 10.0.0.0/8 le":               api.ErrWord,
		"in src":                             api.ErrWord,
		"in id":                              api.ErrWord,
		"in if allow":                        api.ErrWord,
		"in if if":                           api.ErrWord,
		"in dst allow":                       api.ErrValue,
		"in ge allow":                        api.ErrValue,
		"in add allow":                       api.ErrValue,
		"in add -1":                          api.ErrValue,
		"in add 07":                          api.ErrValue,
		"in add ''":                          api.ErrValue,
		"in add 65536":                       api.ErrValue,
		"in add 9999999":                     api.ErrValue,
		"in add 10000000 x":                  api.ErrValue,
		"in dst 10.0.0.0 allow":              api.ErrValue,
		"in dst 10.0.0.1/8 allow":            api.ErrValue,
		"in dst 10.0.0.0/33 allow":           api.ErrValue,
		"in dst x allow":                     api.ErrValue,
		"in dst '' allow":                    api.ErrValue,
		"in src 2001:db8::1/32 allow":        api.ErrValue,
		"in src ::/129 allow":                api.ErrValue,
		"in id 1 allow":                      api.ErrValue,
		"in id 00:01:02:03:04:05:06:FF deny": api.ErrValue,
		"in dst ::/0 ge x deny":              api.ErrValue,
		"in dst ::/0 le 10000000 deny":       api.ErrValue,
		// Said again.
		"in if e0 if e0 allow":             api.ErrTwice,
		"in if e0 if":                      api.ErrTwice,
		"in if '' if e0 allow":             api.ErrTwice,
		"in dst ::/0 dst ::/0 allow":       api.ErrTwice,
		"in dst ::/0 ge 0 ge 0 allow":      api.ErrTwice,
		"in dst ::/0 le 0 le 0 allow":      api.ErrTwice,
		"in src ::/0 dst ::/0 src x allow": api.ErrTwice,
		"in id " + zeroId + " id x allow":  api.ErrTwice,
		"in ge 1 le 2 ge 3 dst ::/0 allow": api.ErrTwice,
		// The leftmost of several.
		"x if e0 if e0 add x":  api.ErrWord,
		"in dst x dst ::/0 y":  api.ErrValue,
		"in dst ::/0 dst x y":  api.ErrTwice,
		"in y dst x":           api.ErrWord,
		"in add x y":           api.ErrValue,
		"in ge 5 add x":        api.ErrValue,
		"in if a/b x":          api.ErrWord,
		"in if a/b if c allow": api.ErrTwice,
		"in if '' x":           api.ErrWord,
		"in if '' dst x allow": api.ErrValue,
		// Only behind the last word: ge or le without dst, then what CheckRule tells.
		"in ge 8 allow":                      api.ErrWord,
		"in le 8 allow":                      api.ErrWord,
		"in ge 0 allow":                      api.ErrWord,
		"in le 0 deny":                       api.ErrWord,
		"in ge 8 le 9 src ::/0 allow":        api.ErrWord,
		"in if a/b ge 8 allow":               api.ErrWord,
		"in if '' ge 8 allow":                api.ErrWord,
		"in if ''":                           api.ErrWord,
		"in le 8 add 65536":                  api.ErrWord,
		"in if a/b allow":                    api.ErrValue,
		"in if / allow":                      api.ErrValue,
		"in if '' allow":                     api.ErrValue,
		"in if '' deny":                      api.ErrValue,
		"in if '' add 5":                     api.ErrValue,
		"out if '' dst 10.0.0.0/8 deny":      api.ErrValue,
		"install src ::/0 if '' allow":       api.ErrValue,
		"in if 1234567890123456 allow":       api.ErrValue,
		"in dst 10.0.0.0/8 ge 7 allow":       api.ErrValue,
		"in dst 10.0.0.0/8 le 7 allow":       api.ErrValue,
		"in dst 10.0.0.0/8 ge 10 le 9 allow": api.ErrValue,
		"in dst 10.0.0.0/8 le 33 allow":      api.ErrValue,
		"in dst 10.0.0.0/8 ge 33 allow":      api.ErrValue,
		"in dst 10.0.0.0/8 ge 104 allow":     api.ErrValue,
		"in dst 2001:db8::/32 ge 31 allow":   api.ErrValue,
		"in dst 2001:db8::/32 le 129 allow":  api.ErrValue,
		"in dst ::/0 ge 129 deny":            api.ErrValue,
	} {
		if r, e := ParseRule(fields(s)...); r != (api.Rule{}) || e != want {
			t.Errorf("ParseRule(%s) = %+v, %d, want %d", s, r, e, want)
		}
	}
}

func TestParseRuleOfWordsThatNoLineHas(t *testing.T) { // P9.6
	long := strings.Repeat("1", 100000)
	for _, l := range [][]string{{"in", "if", long, "allow"}, {"in", "add", long}, {"in", "dst", long, "allow"}, {"in", "id", long, "deny"}, {"in", "if", "\x00\n", "deny"}, {"in", "dst", "10.0.0.0/8 ", "deny"}, {"in", "src", " ::/0", "deny"}} {
		if r, e := ParseRule(l...); r != (api.Rule{}) || e != api.ErrValue {
			t.Errorf("ParseRule(%.40q) = %+v, %d", l, r, e)
		}
	}
	for _, l := range [][]string{nil, {}, {long}, {"in allow"}, {"in", " allow"}, {"in", "if", "e0", "allow\n"}, slices.Repeat([]string{"in"}, 100000)} {
		if r, e := ParseRule(l...); r != (api.Rule{}) || e != api.ErrWord {
			t.Errorf("ParseRule(%.40q) = %+v, %d", l, r, e)
		}
	}
}

func TestParseRuleLeavesItsWords(t *testing.T) { // P9.6, and rule 3
	l := fields("in if e0 dst 10.0.0.0/8 ge 9 le 10 src ::/0 id " + idText + " add 5 spare")
	with := slices.Clone(l)
	r, e := ParseRule(l[:len(l)-1]...)
	if e != api.OK || !slices.Equal(l, with) {
		t.Fatalf("%d, and the words are %q", e, l)
	}
	for i := range l {
		l[i] = "x"
	}
	if r.If != "e0" || r.Add != 5 {
		t.Errorf("with other words the rule is %+v", r)
	}
}

func TestPrintRule(t *testing.T) { // P9.6
	v4, v6 := prefix(t, "10.0.0.0/8"), prefix(t, "2001:db8::/32")
	id := api.RouterId{0, 1, 2, 3, 4, 5, 6, 255}
	for _, c := range []struct {
		r    api.Rule
		want string
	}{
		{api.Rule{}, "in allow"},
		{api.Rule{Chain: 1, Deny: true}, "out deny"},
		{api.Rule{Chain: 2, Add: 1}, "redistribute add 1"},
		{api.Rule{Chain: 3, Add: 65535}, "install add 65535"},
		{api.Rule{If: "e0"}, "in if e0 allow"},
		{api.Rule{HasDst: true, Dst: v4, Ge: 8, Le: 8}, "in dst 10.0.0.0/8 ge 8 le 8 allow"},
		{api.Rule{HasDst: true, Dst: v4, Ge: 9, Le: 32, Deny: true}, "in dst 10.0.0.0/8 ge 9 le 32 deny"},
		{api.Rule{HasDst: true}, "in dst ::/0 ge 0 le 0 allow"},
		{api.Rule{HasDst: true, Dst: addr.Any(api.V4), Le: 32}, "in dst 0.0.0.0/0 ge 0 le 32 allow"},
		{api.Rule{HasSrc: true}, "in src ::/0 allow"},
		{api.Rule{HasSrc: true, Src: v4}, "in src 10.0.0.0/8 allow"},
		{api.Rule{Id: id}, "in id " + idText + " allow"},
		{api.Rule{Id: api.RouterId{7: 1}, Deny: true}, "in id 00:00:00:00:00:00:00:01 deny"},
		{api.Rule{Chain: 3, If: "e0", HasDst: true, Dst: v4, Ge: 20, Le: 30, HasSrc: true, Src: v6, Id: id, Add: 5}, "install if e0 dst 10.0.0.0/8 ge 20 le 30 src 2001:db8::/32 id " + idText + " add 5"},
		{api.Rule{If: "a/b"}, ""},
		{api.Rule{Ge: 1}, ""},
		{api.Rule{Chain: 4}, ""},
		{api.Rule{Chain: -1}, ""},
		{api.Rule{Deny: true, Add: 1}, ""},
	} {
		if s := PrintRule(c.r); s != c.want {
			t.Errorf("PrintRule(%+v) = %s, want %s", c.r, s, c.want)
		}
		if c.want == "" {
			continue
		}
		l, _ := words.Words(c.want)
		if r, e := ParseRule(l...); r != c.r || e != api.OK { // P9.8
			t.Errorf("ParseRule(%q) = %+v, %d", l, r, e)
		}
	}
}
