package fib

import (
	"slices"

	"culvert/addr"
	"culvert/api"
)

// Expand adds the entries that the kernel needs: it looks at the longest Dst alone, so that this one must have all sources of the wider ones around it too (P19.1).
func Expand(l ...api.Entry) []api.Entry {
	var all []api.Entry
	around := map[int][][]api.Entry{} // by family the blocks of the Dsts around the one at hand, the longest last
	for rest := sorted(table(l)); len(rest) > 0; {
		own := sameDst(rest)
		rest = rest[len(own):]
		dst := dstOf(own)
		family := addr.PrefixFamily(dst) // ::/0 covers what is mapped too, and has no part in it
		wider := covering(around[family], dstOf, dst)
		block := within(last(wider), own)
		around[family] = append(wider, block)
		all = append(all, block...)
	}
	return all
}

// table answers, by their pairs, the entries that have a part: the first of each pair that may be.
func table(l []api.Entry) map[api.Pair]api.Entry {
	m := map[api.Pair]api.Entry{}
	for _, e := range l {
		if _, there := m[e.Pair]; !there && addr.CheckPair(e.Pair) == api.OK {
			m[e.Pair] = e
		}
	}
	return m
}

// sameDst answers the entries at the front of l that have one Dst.
func sameDst(l []api.Entry) []api.Entry {
	for k, e := range l {
		if e.Pair.Dst != l[0].Pair.Dst {
			return l[:k]
		}
	}
	return l
}

// within answers all that belongs to the Dst of own, by rising Srcs; outer is the same of the next wider Dst. A longer Dst goes ahead of a longer Src, so that an own entry holds for all within its Src.
func within(outer, own []api.Entry) []api.Entry {
	dst := dstOf(own)
	block := slices.Concat(own, outer)
	slices.SortStableFunc(block, compareSrc)
	block = slices.CompactFunc(block, sameSrc) // leaves the own one of two
	var wider []api.Entry                      // the own ones whose Src covers the one at hand, the longest last
	for k, e := range block {
		src := e.Pair.Src
		wider = covering(wider, srcOf, src)
		if e.Pair.Dst == dst {
			wider = append(wider, e)
		}
		if len(wider) > 0 {
			e = last(wider)
		}
		block[k] = api.Entry{Pair: api.Pair{Dst: dst, Src: src}, If: e.If, Hop: e.Hop}
	}
	return block
}

// covering answers those at the front of l whose prefix covers p, where each one's prefix covers the next one's. What is left out covers nothing that comes behind p either, as prefixes come by rising ones.
func covering[T any](l []T, prefix func(T) api.Prefix, p api.Prefix) []T {
	for len(l) > 0 && !addr.Covers(prefix(last(l)), p) {
		l = l[:len(l)-1]
	}
	return l
}

// last answers the last one of l; of none the zero value.
func last[T any](l []T) T {
	if len(l) == 0 {
		var none T
		return none
	}
	return l[len(l)-1]
}

func dstOf(block []api.Entry) api.Prefix { return block[0].Pair.Dst }
func srcOf(e api.Entry) api.Prefix       { return e.Pair.Src }

func compareSrc(a, b api.Entry) int { return addr.ComparePrefix(srcOf(a), srcOf(b)) }
func sameSrc(a, b api.Entry) bool   { return srcOf(a) == srcOf(b) }
