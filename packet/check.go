package packet

import (
	"slices"

	"culvert/addr"
	"culvert/api"
)

// Check tells whether t is what Parse may tell (P6.5).
func Check(t api.Tlv) api.Errno {
	rest, ok := unnamed(t)
	if !ok || !Same(rest, api.Tlv{Type: t.Type}) || !fits(t) {
		return api.ErrArg
	}
	return addr.CheckPair(t.Pair) // one that has no part is zero here, which may be
}

// unnamed answers t without the fields that are named of its Type; false, if that tells no Tlv.
func unnamed(t api.Tlv) (api.Tlv, bool) {
	switch t.Type {
	case api.TypeAckReq:
		t.Nonce, t.Interval = 0, 0
	case api.TypeAck:
		t.Nonce = 0
	case api.TypeHello:
		t.Seqno, t.Interval, t.Unicast, t.Stamps = 0, 0, false, nil
	case api.TypeIhu:
		t.Rxcost, t.Interval, t.All, t.Addr, t.Stamps = 0, 0, false, api.Addr{}, nil
	case api.TypeUpdate:
		t.Interval, t.Seqno, t.Metric, t.All = 0, 0, 0, false
		t.Pair, t.Id, t.Addr = api.Pair{}, api.RouterId{}, api.Addr{}
	case api.TypeRouteReq:
		t.All, t.Pair = false, api.Pair{}
	case api.TypeSeqnoReq:
		t.Seqno, t.Hops, t.Id, t.Pair = 0, 0, api.RouterId{}, api.Pair{}
	default:
		return api.Tlv{}, false
	}
	return t, true
}

// fits tells whether the fields that are named of t's Type have values that go together.
func fits(t api.Tlv) bool {
	switch t.Type {
	case api.TypeHello:
		return len(t.Stamps) <= 1
	case api.TypeIhu:
		return (len(t.Stamps) == 0 || len(t.Stamps) == 2) && (!t.All || t.Addr == api.Addr{})
	case api.TypeUpdate:
		return fitsUpdate(t)
	case api.TypeRouteReq:
		return !t.All || t.Pair == api.Pair{}
	case api.TypeSeqnoReq:
		return t.Hops != 0 && t.Id != api.RouterId{}
	}
	return true
}

func fitsUpdate(t api.Tlv) bool {
	if t.All && (t.Metric != api.Infinity || t.Pair != api.Pair{}) {
		return false
	}
	if t.Metric == api.Infinity { // of all or of one pair: who takes back need not say whose it was
		return t.Id == api.RouterId{} && t.Addr == api.Addr{}
	}
	return !nobody(t.Id)
}

// Same tells whether all fields of a and b are the same (P6.6).
func Same(a, b api.Tlv) bool {
	return sameNumbers(a, b) &&
		a.Unicast == b.Unicast &&
		a.All == b.All &&
		a.Id == b.Id &&
		a.Addr == b.Addr &&
		a.Pair == b.Pair &&
		slices.Equal(a.Stamps, b.Stamps)
}

func sameNumbers(a, b api.Tlv) bool {
	return a.Type == b.Type &&
		a.Nonce == b.Nonce &&
		a.Interval == b.Interval &&
		a.Seqno == b.Seqno &&
		a.Rxcost == b.Rxcost &&
		a.Metric == b.Metric &&
		a.Hops == b.Hops
}
