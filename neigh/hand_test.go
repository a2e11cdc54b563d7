package neigh

import (
	"bytes"
	high "math/bits"
	"math/rand"
	"slices"
	"testing"

	"culvert/api"
	"culvert/link"
	"culvert/rtt"
)

// book is a second reading of a table: neighbours in a list that is kept in order, and what is missed reckoned at once, by a division.
type book struct {
	most int
	ifs  []api.IfConf
	l    []api.Neighbour
}

// place is where the neighbour stands in the list, or ought to.
func (b *book) place(i int, from api.Addr) (int, bool) {
	for k, n := range b.l {
		c := bytes.Compare(n.Addr[:], from[:])
		if n.If > i || n.If == i && c >= 0 {
			return k, n.If == i && c == 0
		}
	}
	return len(b.l), false
}

func (b *book) hello(now, i int, from api.Addr, h api.Tlv) api.Errno {
	if i < 0 || i >= len(b.ifs) || h.Type != api.TypeHello {
		return api.ErrArg
	}
	k, there := b.place(i, from)
	if !there {
		if len(b.l)+1 > b.most {
			return api.ErrMany
		}
		b.l = slices.Insert(b.l, k, api.Neighbour{If: i, Addr: from, Tx: 65535})
	}
	n := &b.l[k]
	history, gap, at := &n.Multi, &n.MultiGap, &n.MultiAt
	if h.Unicast {
		history, gap, at = &n.Uni, &n.UniGap, &n.UniAt
	}
	*history, *gap, *at = link.Hear(*history, h.Seqno), 10*int(h.Interval), now+15*int(h.Interval)
	if h.Interval == 0 {
		*at = 0
	}
	if len(h.Stamps) == 1 {
		n.Sent, n.Heard, n.HasSent = h.Stamps[0], now, true
	}
	return api.OK
}

func (b *book) ihu(now, i int, from api.Addr, h api.Tlv) api.Errno {
	if i < 0 || i >= len(b.ifs) || h.Type != api.TypeIhu {
		return api.ErrArg
	}
	k, there := b.place(i, from)
	if !there {
		return api.ErrNone
	}
	n := &b.l[k]
	n.Tx, n.TxAt = h.Rxcost, now+35*int(h.Interval)
	if c := b.ifs[i].Rtt; c.On && len(h.Stamps) == 2 && n.HasSent && n.Heard == now {
		if s, ok := rtt.Sample(h.Stamps[0], h.Stamps[1], n.Sent, rtt.Clock(now)); ok {
			if n.HasRtt {
				s = rtt.Smooth(c, n.Rtt, s)
			}
			n.Rtt, n.HasRtt = s, true
		}
	}
	return api.OK
}

// fade has what is missed by now out of a history: as many as ought to have come, but no more than it takes to empty it.
func fade(h *api.History, gap int, at *int, now int) {
	if h.Bits == 0 || gap == 0 || *at > now {
		return
	}
	times := min((now-*at)/gap+1, high.Len16(h.Bits))
	h.Bits, h.Next, *at = h.Bits>>times, h.Next+uint16(times), *at+gap*times
}

func (b *book) tick(now int) []api.Neighbour {
	var gone, stay []api.Neighbour
	for _, n := range b.l {
		fade(&n.Multi, n.MultiGap, &n.MultiAt, now)
		fade(&n.Uni, n.UniGap, &n.UniAt, now)
		if n.TxAt <= now {
			n.Tx = 65535
		}
		if n.Multi.Bits|n.Uni.Bits == 0 {
			gone = append(gone, n)
		} else {
			stay = append(stay, n)
		}
	}
	b.l = stay
	return gone
}

// next is the first time at which tick would change something: looked for by ticking at every time that is kept.
func (b *book) next() (int, bool) {
	var times []int
	for _, n := range b.l {
		times = append(times, n.MultiAt, n.UniAt, n.TxAt)
	}
	slices.Sort(times)
	for _, at := range times {
		c := book{b.most, b.ifs, slices.Clone(b.l)}
		if c.tick(at); !slices.Equal(c.l, b.l) {
			return at, true
		}
	}
	return 0, false
}

// costs is what a neighbour costs to hear, and in all.
func (b *book) costs(i int, from api.Addr) (uint16, uint16) {
	k, there := b.place(i, from)
	if !there {
		return 65535, 65535
	}
	n, c := b.l[k], b.ifs[i]
	rx := min(link.Rx(c.Kind, uint16(c.Cost), n.Multi), link.Rx(c.Kind, uint16(c.Cost), n.Uni))
	all := int(link.Cost(c.Kind, rx, n.Tx))
	if n.HasRtt {
		all += int(rtt.Cost(c.Rtt, n.Rtt))
	}
	return rx, uint16(min(all, 65535))
}

func (b *book) drop(ifs ...int) int {
	ahead := len(b.l)
	for _, i := range ifs {
		b.l = slices.DeleteFunc(b.l, func(n api.Neighbour) bool { return n.If == i })
	}
	return ahead - len(b.l)
}

// play is a table and a book to which the same is done.
type play struct {
	r    *rand.Rand
	x    *Table
	b    *book
	now  int
	sent [7]uint16 // the last seqno of everybody
	met  map[api.Errno]int
	gone int
	rtts int
}

// whose is somebody's address: of the least numbers, so that they meet again.
func (p *play) whose() (byte, api.Addr) {
	n := byte(p.r.Intn(len(p.sent)))
	return n, api.Addr{0: 0xfe, 7: n % 2, 15: n}
}

// where is an interface, or, now and then, none.
func (p *play) where() int {
	if p.r.Intn(20) == 0 {
		return []int{-1, len(p.b.ifs)}[p.r.Intn(2)]
	}
	return p.r.Intn(len(p.b.ifs))
}

func (p *play) interval() uint16 {
	return []uint16{0, 1, 2, 10, 100, 400, 400, 400, 400, 65535}[p.r.Intn(10)]
}

// step does something to both, and tells whether they answer the same.
func (p *play) step() bool {
	n, from := p.whose()
	i := p.where()
	same := true
	switch p.r.Intn(16) {
	case 0, 1, 2, 3, 4, 5, 6:
		h := api.Tlv{Type: api.TypeHello, Interval: p.interval(), Unicast: p.r.Intn(3) == 0}
		p.sent[n] += uint16(p.r.Intn(3))
		h.Seqno = p.sent[n]
		if p.r.Intn(40) == 0 {
			h.Type++
		}
		if p.r.Intn(2) == 0 {
			h.Stamps = []uint32{rtt.Clock(p.now) + uint32(n)<<29}
		}
		e := p.b.hello(p.now, i, from, h)
		same = p.x.Hello(p.now, i, from, h) == e
		p.met[e]++
	case 7, 8, 9, 10:
		h := api.Tlv{Type: api.TypeIhu, Interval: p.interval(), Rxcost: []uint16{0, 96, 256, 300, 65534, 65535}[p.r.Intn(6)]}
		if p.r.Intn(40) == 0 {
			h.Type++
		}
		if p.r.Intn(4) != 0 {
			away := uint32(p.r.Intn(200))
			h.Stamps = []uint32{rtt.Clock(p.now) - away, rtt.Clock(p.now) + uint32(n)<<29 - away/2 - uint32(p.r.Intn(20))}
		}
		e := p.b.ihu(p.now, i, from, h)
		same = p.x.Ihu(p.now, i, from, h) == e
		p.met[e]++
	case 11, 12:
		at, ok := p.b.next()
		if ok && at >= p.now && at-p.now < 100000 { // one ahead of it, at it, one behind it
			p.now = max(p.now, at+p.r.Intn(3)-1)
		}
	case 13:
		p.now += p.r.Intn(5) * p.r.Intn(3000)
	case 14:
		gone := p.b.tick(p.now)
		same = slices.Equal(p.x.Tick(p.now), gone)
		p.gone += len(gone)
	case 15:
		if p.r.Intn(8) == 0 {
			j := p.where()
			same = p.x.Drop(i, j, i) == p.b.drop(i, j, i)
		}
	}
	return same
}

// alike tells whether both know the same.
func (p *play) alike() bool {
	at, ok := p.b.next()
	if a, o := p.x.Next(); a != at || o != ok {
		return false
	}
	if l := p.x.List(); !slices.Equal(l, p.b.l) || len(l) > max(p.b.most, 0) {
		return false
	}
	for _, n := range p.b.l {
		if n.HasRtt {
			p.rtts++
		}
	}
	i := p.where()
	_, from := p.whose()
	k, there := p.b.place(i, from)
	n, got := p.x.Get(i, from)
	if got != there || there && n != p.b.l[k] || !there && n != (api.Neighbour{}) {
		return false
	}
	rx, all := p.b.costs(i, from)
	return p.x.Rx(i, from) == rx && p.x.Cost(i, from) == all
}

func TestByHand(t *testing.T) { // P13.1 to P13.8
	met, gone, rtts := map[api.Errno]int{}, 0, 0
	for seed := range int64(150) {
		r := rand.New(rand.NewSource(seed))
		most := r.Intn(14) - 1
		p := &play{r: r, x: New(most, faces()...), b: &book{most: most, ifs: faces()}, now: r.Intn(3) * r.Intn(1<<40), met: met}
		for k := range 400 {
			if !p.step() || !p.alike() {
				t.Fatalf("seed %d, step %d: %v, want %v", seed, k, p.x.List(), p.b.l)
			}
		}
		gone += p.gone
		rtts += p.rtts
	}
	for _, e := range []api.Errno{api.OK, api.ErrArg, api.ErrMany, api.ErrNone} {
		if met[e] < 500 {
			t.Errorf("error %d met %d times", e, met[e])
		}
	}
	if gone < 200 || rtts < 1000 {
		t.Errorf("%d gone, %d times of links", gone, rtts)
	}
}
