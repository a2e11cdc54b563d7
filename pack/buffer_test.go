package pack

import (
	"bytes"
	"slices"
	"testing"

	"culvert/api"
)

// buffer is a new one.
func buffer(t *testing.T, src api.Addr, mtu int) *Buffer {
	t.Helper()
	b, e := New(src, mtu)
	if e != api.OK || b == nil {
		t.Fatalf("New(%v, %d) = %v, %d", src, mtu, b, e)
	}
	return b
}

// wantAdd fails unless Add answers that, and then so many wait.
func wantAdd(t *testing.T, b *Buffer, want api.Errno, n int, l ...api.Tlv) {
	t.Helper()
	if e := b.Add(l...); e != want || b.Len() != n {
		t.Errorf("Add(%+v) = %d, and %d wait; want %d and %d", l, e, b.Len(), want, n)
	}
}

// wantFlush fails unless Flush answers Pack of l, and then nothing waits.
func wantFlush(t *testing.T, b *Buffer, src api.Addr, mtu int, l ...api.Tlv) {
	t.Helper()
	want, e := Pack(src, mtu, l...)
	if e != api.OK {
		t.Fatal(e)
	}
	if got := b.Flush(); !slices.EqualFunc(got, want, bytes.Equal) || b.Len() != 0 {
		t.Errorf("Flush() = %x, want %x; %d wait", got, want, b.Len())
	}
}

func TestABufferPacksWhatWaits(t *testing.T) { // P7.5
	var l []api.Tlv
	for _, x := range some {
		l = append(l, x.t)
	}
	for _, src := range []api.Addr{local, four, hop6, {}} {
		for _, mtu := range []int{83, 100, 1500, 65539} {
			b := buffer(t, src, mtu)
			if b.Len() != 0 {
				t.Errorf("%d wait in a new buffer", b.Len())
			}
			for i, x := range l {
				wantAdd(t, b, api.OK, i+1, x)
			}
			wantFlush(t, b, src, mtu, l...)
			wantAdd(t, b, api.OK, len(l), l...)
			wantAdd(t, b, api.OK, len(l)+3, l[:3]...)
			wantAdd(t, b, api.OK, len(l)+3)
			wantFlush(t, b, src, mtu, slices.Concat(l, l[:3])...)
		}
	}
}

func TestFlushTwice(t *testing.T) { // P7.5
	b := buffer(t, local, 64)
	wantFlush(t, b, local, 64)
	wantAdd(t, b, api.OK, 1, way("::/0", idA, near))
	wantFlush(t, b, local, 64, way("::/0", idA, near))
	wantFlush(t, b, local, 64)
	wantAdd(t, b, api.OK, 1, way("::/0", idA, near)) // the packet that went out told nothing for this one
	wantFlush(t, b, local, 64, way("::/0", idA, near))
	wantFlush(t, b, local, 64)
}

func TestAddOfSomethingThatIsRefused(t *testing.T) { // P7.5
	for _, x := range []struct {
		t    api.Tlv
		want api.Errno
	}{
		{api.Tlv{}, api.ErrArg},
		{api.Tlv{Type: 8, Metric: 1, Addr: near}, api.ErrArg},
		{api.Tlv{Type: 9, Pair: api.Pair{Dst: api.Prefix{Len: 129}}}, api.ErrPrefix},
		{way("10.0.0.0/8", idA, near), api.ErrArg},
		{way("2001:db8::1/128 from 2001:db8::/128", idA, hop6), api.ErrMtu},
	} {
		b := buffer(t, local, 82)
		wantAdd(t, b, x.want, 0, x.t)
		wantFlush(t, b, local, 82)
		wantAdd(t, b, api.OK, 2, ack(1), ack(2))
		wantAdd(t, b, x.want, 2, ack(3), ack(4), x.t)
		wantAdd(t, b, x.want, 2, ack(3), x.t, ack(4))
		wantAdd(t, b, x.want, 2, x.t, ack(3), ack(4))
		wantAdd(t, b, api.OK, 3, ack(5))
		wantFlush(t, b, local, 82, ack(1), ack(2), ack(5))
	}
}

func TestAddTellsTheFirstError(t *testing.T) { // P7.5
	bad := api.Tlv{Type: 9, Pair: api.Pair{Dst: api.Prefix{Len: 129}}}
	long := way("2001:db8::1/128 from 2001:db8::/128", idA, hop6)
	b := buffer(t, local, 64)
	wantAdd(t, b, api.ErrPrefix, 0, bad, long)
	wantAdd(t, b, api.ErrMtu, 0, long, bad)
	wantAdd(t, b, api.ErrArg, 0, api.Tlv{Type: 77}, long, bad)
}

func TestANilBuffer(t *testing.T) { // P7.5
	var b *Buffer
	wantAdd(t, b, api.ErrNone, 0)
	wantAdd(t, b, api.ErrNone, 0, ack(1))
	wantAdd(t, b, api.ErrNone, 0, api.Tlv{Type: 77})
	if got := b.Flush(); len(got) != 0 {
		t.Errorf("%x", got)
	}
}

func TestBuffersStandApart(t *testing.T) { // P7.5
	a, b := buffer(t, local, 64), buffer(t, four, 128)
	wantAdd(t, a, api.OK, 1, way("10.0.0.0/8", idA, four))
	wantAdd(t, b, api.OK, 1, way("10.0.0.0/8", idA, four))
	wantAdd(t, b, api.OK, 2, ack(1))
	wantFlush(t, b, four, 128, way("10.0.0.0/8", idA, four), ack(1))
	if a.Len() != 1 {
		t.Errorf("%d wait", a.Len())
	}
	wantFlush(t, a, local, 64, way("10.0.0.0/8", idA, four))
}

// hellos is Tlvs whose lists have spare room, and so has the list itself.
func hellos() []api.Tlv {
	l := make([]api.Tlv, 0, 5)
	for i := range 3 {
		stamps := append(make([]uint32, 0, 4), uint32(i))
		l = append(l, api.Tlv{Type: 4, Seqno: uint16(i), Stamps: stamps})
	}
	return append(l, api.Tlv{Type: 5, All: true, Stamps: append(make([]uint32, 0, 4), 7, 8)})
}

// spoilTlvs changes Tlvs and their lists, spare room too.
func spoilTlvs(l []api.Tlv) {
	l = l[:cap(l)]
	for i := range l {
		stamps := l[i].Stamps[:cap(l[i].Stamps)]
		for j := range stamps {
			stamps[j] = 0xabababab
		}
		l[i] = api.Tlv{Type: 99}
	}
}

// spoilPackets changes packets and their list, spare room too.
func spoilPackets(l [][]byte) {
	l = l[:cap(l)]
	for i := range l {
		p := l[i][:cap(l[i])]
		for j := range p {
			p[j] = 0xab
		}
		l[i] = []byte("spoilt")
	}
}

func TestWhatWaitsIsTheBuffersOwn(t *testing.T) { // rule 3
	b := buffer(t, local, 64)
	first, second := hellos(), hellos()
	wantAdd(t, b, api.OK, 4, first...)
	spoilTlvs(first)
	wantAdd(t, b, api.OK, 8, second...)
	spoilTlvs(second)
	wantFlush(t, b, local, 64, slices.Concat(hellos(), hellos())...)
	one := hellos()
	wantAdd(t, b, api.OK, 1, one[0]) // by itself: its list alone is shared
	spoilTlvs(one)
	wantFlush(t, b, local, 64, hellos()[0])
}

func TestWhatIsHandedInStays(t *testing.T) { // rule 3
	l := hellos()
	b := buffer(t, local, 64)
	if _, e := Pack(local, 64, l...); e != api.OK || b.Add(l...) != api.OK {
		t.Fatal(e)
	}
	b.Add(ack(1))
	Size(l[0])
	spoilPackets(b.Flush())
	for i, x := range hellos() {
		got := l[i]
		if got.Seqno != x.Seqno || !slices.Equal(got.Stamps[:4], append(x.Stamps, make([]uint32, 4-len(x.Stamps))...)) {
			t.Errorf("%+v, spare room %v", got, got.Stamps[:4])
		}
	}
	if spare := l[:5][4]; spare.Type != 0 {
		t.Errorf("in the spare room: %+v", spare)
	}
}

func TestPacketsAreNewMemory(t *testing.T) { // rule 3
	l := append(acks(40), hellos()...)
	want := func() [][]byte {
		p, e := Pack(local, 64, l...)
		if e != api.OK || len(p) < 3 {
			t.Fatalf("%d packets, %d", len(p), e)
		}
		return p
	}
	first, second := want(), want()
	clone := want()
	spoilPackets(first)
	if !slices.EqualFunc(second, clone, bytes.Equal) || !slices.EqualFunc(want(), clone, bytes.Equal) {
		t.Error("two answers share something")
	}
	for i := range second { // of one answer, one packet and the others
		p := second[i][:cap(second[i])]
		for j := range p {
			p[j] = 0xab
		}
		for k := range second[i+1:] {
			if !bytes.Equal(second[i+1+k], clone[i+1+k]) {
				t.Fatalf("packets %d and %d share something", i, i+1+k)
			}
		}
	}
	b := buffer(t, local, 64)
	b.Add(l...)
	out := b.Flush()
	b.Add(l...)
	spoilPackets(out)
	if got := b.Flush(); !slices.EqualFunc(got, clone, bytes.Equal) {
		t.Errorf("%x", got)
	}
}
