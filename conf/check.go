package conf

import (
	"slices"

	"culvert/addr"
	"culvert/api"
)

const (
	maxName  = 15
	minGap   = 10 // also what a gap is a multiple of: packets tell it in hundredths of a second
	maxGap   = 655350
	maxMtu   = 65539
	maxRtt   = 1000000
	maxDecay = 256
)

// Check tells what is wrong with a configuration (P9.2).
func Check(c api.Config) api.Errno {
	switch {
	case c.Id == repeated(0) || c.Id == repeated(255):
		return api.ErrValue
	case len(c.Ifs) == 0:
		return api.ErrWithout
	case len(c.Ifs) > api.MaxIfs || len(c.Rules) > api.MaxRules || len(c.Locals) > api.MaxLocal:
		return api.ErrMany
	}
	if e := checkIfs(c.Ifs); e != api.OK {
		return e
	}
	for _, r := range c.Rules {
		if e := CheckRule(r); e != api.OK {
			return e
		}
	}
	if e := checkLocals(c.Locals); e != api.OK {
		return e
	}
	for _, room := range []int{c.Neighbours, c.Sources, c.Routes, c.Requests} {
		if !within(room, 1, api.MaxCap) {
			return api.ErrValue
		}
	}
	return api.OK
}

// repeated answers the id whose bytes are all b.
func repeated(b byte) api.RouterId {
	var id api.RouterId
	for i := range id {
		id[i] = b
	}
	return id
}

func within(n, least, most int) bool {
	return least <= n && n <= most
}

// isName tells what may be a name (P9.1).
func isName(s string) bool {
	if !within(len(s), 1, maxName) {
		return false
	}
	for i := range len(s) {
		if !inName(s[i]) {
			return false
		}
	}
	return true
}

func inName(c byte) bool {
	return 'a' <= c && c <= 'z' || 'A' <= c && c <= 'Z' || '0' <= c && c <= '9' || c == '.' || c == '_' || c == '-'
}

func checkIfs(l []api.IfConf) api.Errno {
	for i, f := range l {
		if !ifMayBe(f) {
			return api.ErrValue
		}
		if slices.ContainsFunc(l[:i], func(g api.IfConf) bool { return g.Name == f.Name }) {
			return api.ErrTwice
		}
	}
	return api.OK
}

func ifMayBe(f api.IfConf) bool {
	return isName(f.Name) &&
		(f.Kind == api.Wired || f.Kind == api.Wireless) &&
		within(f.Cost, 1, api.Infinity-1) &&
		gapMayBe(f.Hello) && gapMayBe(f.Update) &&
		within(f.Mtu, api.MinMtu, maxMtu) &&
		linkLocal(f.Addr) &&
		(f.Addr4 == api.Addr{} || addr.Family(f.Addr4) == api.V4) &&
		rttMayBe(f.Rtt)
}

func gapMayBe(n int) bool {
	return within(n, minGap, maxGap) && n%minGap == 0
}

// linkLocal looks at fe80::/64, not at all of fe80::/10: packets leave that half out.
func linkLocal(a api.Addr) bool {
	return addr.Contains(api.Prefix{A: api.Addr{0xfe, 0x80}, Len: 64}, a)
}

func rttMayBe(r api.Rtt) bool {
	if !r.On {
		return r == api.Rtt{}
	}
	return within(r.Min, 0, maxRtt) && r.Max > r.Min && r.Max <= maxRtt && within(r.Cost, 1, api.Infinity-1) && within(r.Decay, 1, maxDecay)
}

func checkLocals(l []api.Local) api.Errno {
	for i, a := range l {
		if addr.CheckPair(a.Pair) != api.OK || !within(a.Metric, 0, api.Infinity-1) {
			return api.ErrValue
		}
		if slices.ContainsFunc(l[:i], func(b api.Local) bool { return b.Pair == a.Pair }) {
			return api.ErrTwice
		}
	}
	return api.OK
}

// CheckRule tells what is wrong with a rule (P9.3).
func CheckRule(r api.Rule) api.Errno {
	if !within(r.Chain, api.ChainIn, api.ChainInstall) || r.If != "" && !isName(r.If) || !dstMayBe(r) || !srcMayBe(r) {
		return api.ErrValue
	}
	if r.Deny && r.Add != 0 || !within(r.Add, 0, api.Infinity) {
		return api.ErrValue
	}
	return api.OK
}

func dstMayBe(r api.Rule) bool {
	if !r.HasDst {
		return r.Dst == api.Prefix{} && r.Ge == 0 && r.Le == 0
	}
	if addr.Check(r.Dst) != api.OK {
		return false
	}
	least, most := bits(r.Dst)
	return least <= r.Ge && r.Ge <= r.Le && r.Le <= most
}

// bits tells how many a prefix has, as its family counts them, and how many there may be.
func bits(p api.Prefix) (has, most int) {
	if addr.PrefixFamily(p) == api.V4 {
		return p.Len - 96, 32
	}
	return p.Len, 128
}

func srcMayBe(r api.Rule) bool {
	if !r.HasSrc {
		return r.Src == api.Prefix{}
	}
	return addr.Check(r.Src) == api.OK
}
