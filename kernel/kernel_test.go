package kernel

import (
	"math"
	"slices"
	"strings"
	"testing"

	"culvert/addr"
	"culvert/api"
)

// entry reads a pair, : and a number, which is the interface and ends the hop.
func entry(s string) api.Entry {
	text, digits, _ := strings.Cut(s, ": ")
	p, e := addr.ParsePair(text)
	if e != api.OK || len(digits) != 1 {
		panic(s)
	}
	n := digits[0] - '0'
	return api.Entry{Pair: p, If: int(n), Hop: api.Addr{0: 0xfe, 1: 0x80, 15: n}}
}

func entries(l ...string) []api.Entry {
	var out []api.Entry
	for _, s := range l {
		out = append(out, entry(s))
	}
	return out
}

func at(s string) api.Addr {
	a, e := addr.Parse(s)
	if e != api.OK {
		panic(s)
	}
	return a
}

func op(kind int, s string) api.Op {
	return api.Op{Kind: kind, Entry: entry(s)}
}

// done fails unless k does each of these, one behind the other.
func done(t *testing.T, k *Kernel, l ...api.Op) {
	t.Helper()
	for _, o := range l {
		if !k.Do(o) {
			t.Fatalf("Do(%v) was not done", o)
		}
	}
}

// refused fails unless k does none of these, and has just what it had.
func refused(t *testing.T, k *Kernel, l ...api.Op) {
	t.Helper()
	own, others := k.List(), k.Imported()
	for _, o := range l {
		if k.Do(o) {
			t.Fatalf("Do(%v) was done", o)
		}
	}
	if !slices.Equal(k.List(), own) || !slices.Equal(k.Imported(), others) {
		t.Fatalf("what was refused changed the table")
	}
}

// has fails unless these are k's own entries.
func has(t *testing.T, k *Kernel, want ...string) {
	t.Helper()
	if got := k.List(); !slices.Equal(got, entries(want...)) {
		t.Fatalf("List() = %v, want %v", got, want)
	}
}

// imported fails unless these are the entries of others.
func imported(t *testing.T, k *Kernel, want ...string) {
	t.Helper()
	if got := k.Imported(); !slices.Equal(got, entries(want...)) {
		t.Fatalf("Imported() = %v, want %v", got, want)
	}
}

// finds fails unless a packet goes there; nowhere where want is empty.
func finds(t *testing.T, k *Kernel, src, dst, want string) {
	t.Helper()
	got, ok := k.Lookup(at(src), at(dst))
	if want == "" && (ok || got != (api.Entry{})) || want != "" && (!ok || got != entry(want)) {
		t.Fatalf("Lookup(%s, %s) = %v, %v, want %q", src, dst, got, ok, want)
	}
}

// bad is pairs that may not be.
func bad() []api.Pair {
	v4, v6 := entry("10.0.0.0/8: 0").Pair, entry("2001:db8::/32: 0").Pair
	l := []api.Pair{{Dst: v4.Dst, Src: v6.Src}, {Dst: v6.Dst, Src: v4.Src}, v4, v4, v6, v6}
	l[2].Dst.Len = 129
	l[3].Src.Len = -1
	l[4].Dst.A[15] = 1
	l[5].Src.A[0] = 0x20
	return l
}

func TestANewKernelHasNothing(t *testing.T) { // P20.1
	k := New()
	has(t, k)
	imported(t, k)
	finds(t, k, "1.1.1.1", "10.0.0.1", "")
	finds(t, k, "::", "::", "")
	done(t, k, op(1, "10.0.0.0/8: 1"))
	if has(t, New()); New() == k {
		t.Error("two kernels are one")
	}
}

func TestAddChangeRemove(t *testing.T) { // P20.2
	k := New()
	done(t, k, op(api.OpAdd, "10.0.0.0/8: 1"), op(api.OpAdd, "::/0: 2"), op(api.OpAdd, "10.0.0.0/8 from 1.0.0.0/8: 3"))
	has(t, k, "::/0: 2", "10.0.0.0/8: 1", "10.0.0.0/8 from 1.0.0.0/8: 3")
	done(t, k, op(api.OpChange, "10.0.0.0/8: 4"))
	has(t, k, "::/0: 2", "10.0.0.0/8: 4", "10.0.0.0/8 from 1.0.0.0/8: 3")
	done(t, k, op(api.OpChange, "10.0.0.0/8: 4")) // to what it is
	has(t, k, "::/0: 2", "10.0.0.0/8: 4", "10.0.0.0/8 from 1.0.0.0/8: 3")
	done(t, k, op(api.OpRemove, "10.0.0.0/8: 9"), op(api.OpRemove, "::/0: 2")) // another If and Hop have no part
	has(t, k, "10.0.0.0/8 from 1.0.0.0/8: 3")
	done(t, k, op(api.OpAdd, "10.0.0.0/8: 5"))
	has(t, k, "10.0.0.0/8: 5", "10.0.0.0/8 from 1.0.0.0/8: 3")
	imported(t, k)
}

func TestWhatAnEntryHasIsKeptAsItIs(t *testing.T) { // P20.2: nothing is asked of its If and Hop
	p := entry("10.0.0.0/8: 0").Pair
	for _, i := range []int{math.MinInt, -1, 0, math.MaxInt} {
		e := api.Entry{Pair: p, If: i, Hop: api.Addr{15: 7}}
		k := New()
		done(t, k, api.Op{Kind: api.OpAdd, Entry: e})
		if got, ok := k.Lookup(at("1.1.1.1"), at("10.0.0.0")); !ok || got != e {
			t.Errorf("Lookup = %v, want %v", got, e)
		}
	}
}

func TestWhatIsNotDone(t *testing.T) { // P20.2
	k := New()
	refused(t, k, op(api.OpChange, "10.0.0.0/8: 1"), op(api.OpRemove, "10.0.0.0/8: 1"))
	done(t, k, op(api.OpAdd, "10.0.0.0/8: 1"))
	k.Import(entry("11.0.0.0/8: 2"))
	refused(t, k,
		op(api.OpAdd, "10.0.0.0/8: 1"), op(api.OpAdd, "10.0.0.0/8: 2"),
		op(api.OpAdd, "11.0.0.0/8: 2"), op(api.OpChange, "11.0.0.0/8: 3"), op(api.OpRemove, "11.0.0.0/8: 2"),
		op(api.OpChange, "10.0.0.0/9: 2"), op(api.OpRemove, "10.0.0.0/9: 1"),
		op(api.OpChange, "10.0.0.0/8 from 1.0.0.0/8: 2"), op(api.OpRemove, "10.0.0.0/8 from 1.0.0.0/8: 1"))
	has(t, k, "10.0.0.0/8: 1")
	imported(t, k, "11.0.0.0/8: 2")
}

func TestOtherKindsAreNotDone(t *testing.T) { // P20.2
	k := New()
	done(t, k, op(api.OpAdd, "10.0.0.0/8: 1"))
	k.Import(entry("11.0.0.0/8: 2"))
	for _, kind := range []int{math.MinInt, -1, 0, 4, 5, 1 << 32, 1<<32 + 1, math.MaxInt} {
		refused(t, k, op(kind, "10.0.0.0/8: 2"), op(kind, "11.0.0.0/8: 3"), op(kind, "12.0.0.0/8: 3"))
	}
}

func TestPairsThatMayNotBe(t *testing.T) { // P20.2, P20.4
	k := New()
	for _, p := range bad() {
		e := api.Entry{Pair: p, If: 1}
		refused(t, k, api.Op{Kind: 1, Entry: e}, api.Op{Kind: 2, Entry: e}, api.Op{Kind: 3, Entry: e})
		if n := k.Import(e, e); n != 0 {
			t.Errorf("Import of %v: %d", p, n)
		}
	}
	has(t, k)
	imported(t, k)
}

func TestFail(t *testing.T) { // P20.3
	for _, n := range []int{1, 2, 5} {
		k := New()
		done(t, k, op(1, "10.0.0.0/8: 1"))
		k.Fail(n)
		for range n {
			refused(t, k, op(1, "::/0: 2"))
		}
		done(t, k, op(1, "::/0: 2"), op(3, "10.0.0.0/8: 1"))
	}
}

func TestEachCallOfDoCounts(t *testing.T) { // P20.3: also one that would not be done
	k := New()
	k.Fail(4)
	refused(t, k, op(0, "10.0.0.0/8: 1"), op(2, "10.0.0.0/8: 1"), api.Op{Kind: 1, Entry: api.Entry{Pair: bad()[0]}}, op(3, "::/0: 1"))
	done(t, k, op(1, "10.0.0.0/8: 1"))
}

func TestNoOtherCallCounts(t *testing.T) { // P20.3
	k := New()
	k.Fail(1)
	if n := k.Import(entry("10.0.0.0/8: 1")); n != 1 {
		t.Errorf("Import: %d", n)
	}
	finds(t, k, "1.1.1.1", "10.0.0.1", "10.0.0.0/8: 1")
	has(t, k)
	imported(t, k, "10.0.0.0/8: 1")
	refused(t, k, op(1, "::/0: 2"))
	done(t, k, op(1, "::/0: 2"))
}

func TestFailsThatAreNone(t *testing.T) { // P20.3
	for _, n := range []int{0, -1, math.MinInt} {
		k := New()
		k.Fail(n)
		done(t, k, op(1, "10.0.0.0/8: 1"))
		k.Fail(3)
		refused(t, k, op(3, "10.0.0.0/8: 1"))
		k.Fail(n) // the last word counts
		done(t, k, op(3, "10.0.0.0/8: 1"))
	}
}

func TestTheLastFailCounts(t *testing.T) { // P20.3
	k := New()
	k.Fail(3)
	k.Fail(1)
	refused(t, k, op(1, "::/0: 2"))
	done(t, k, op(1, "::/0: 2"))
	k.Fail(1)
	k.Fail(2)
	refused(t, k, op(3, "::/0: 2"), op(3, "::/0: 2"))
	done(t, k, op(3, "::/0: 2"))
	k.Fail(math.MaxInt)
	for range 1000 {
		refused(t, k, op(1, "::/0: 2"))
	}
}

func TestImport(t *testing.T) { // P20.4
	k := New()
	if n := k.Import(); n != 0 {
		t.Errorf("Import of none: %d", n)
	}
	done(t, k, op(1, "10.0.0.0/8: 1"))
	l := entries("11.0.0.0/8: 2", "10.0.0.0/8: 3", "10.0.0.0/8 from 1.0.0.0/8: 4", "11.0.0.0/8: 5", "::/0: 6")
	l = append(l, api.Entry{Pair: bad()[0]})
	if n := k.Import(l...); n != 3 {
		t.Errorf("Import: %d, want 3", n)
	}
	has(t, k, "10.0.0.0/8: 1")
	imported(t, k, "::/0: 6", "10.0.0.0/8 from 1.0.0.0/8: 4", "11.0.0.0/8: 2") // of those of one pair the first
	if n := k.Import(l...); n != 0 {
		t.Errorf("Import again: %d", n)
	}
	done(t, k, op(3, "10.0.0.0/8: 1"))
	if n := k.Import(l...); n != 1 {
		t.Errorf("Import of what was removed: %d, want 1", n)
	}
	has(t, k)
	imported(t, k, "::/0: 6", "10.0.0.0/8: 3", "10.0.0.0/8 from 1.0.0.0/8: 4", "11.0.0.0/8: 2")
}

func TestWhereAPacketGoes(t *testing.T) { // P20.5, and the chapter's example
	k := New()
	done(t, k, op(1, "10.0.0.0/8: 1"), op(1, "10.1.0.0/16 from 1.0.0.0/8: 2"))
	finds(t, k, "1.1.1.1", "10.1.2.3", "10.1.0.0/16 from 1.0.0.0/8: 2")
	finds(t, k, "2.2.2.2", "10.1.2.3", "") // no shorter Dst is looked at
	finds(t, k, "2.2.2.2", "10.2.2.2", "10.0.0.0/8: 1")
	finds(t, k, "1.1.1.1", "11.0.0.0", "")
	finds(t, k, "1.1.1.1", "9.255.255.255", "")
	done(t, k, op(1, "10.1.0.0/16 from 1.1.0.0/16: 3"))
	finds(t, k, "1.1.1.1", "10.1.2.3", "10.1.0.0/16 from 1.1.0.0/16: 3")
	finds(t, k, "1.2.1.1", "10.1.2.3", "10.1.0.0/16 from 1.0.0.0/8: 2")
	done(t, k, op(3, "10.1.0.0/16 from 1.0.0.0/8: 0"))
	finds(t, k, "1.2.1.1", "10.1.2.3", "") // one Src of that Dst is still there
	done(t, k, op(3, "10.1.0.0/16 from 1.1.0.0/16: 0"))
	finds(t, k, "1.1.1.1", "10.1.2.3", "10.0.0.0/8: 1")
}

func TestImportedOnesAreFoundToo(t *testing.T) { // P20.5
	k := New()
	done(t, k, op(1, "10.0.0.0/8: 1"))
	k.Import(entries("10.1.0.0/16 from 1.0.0.0/8: 2", "0.0.0.0/0: 3")...)
	finds(t, k, "1.1.1.1", "10.1.2.3", "10.1.0.0/16 from 1.0.0.0/8: 2")
	finds(t, k, "2.2.2.2", "10.1.2.3", "")
	finds(t, k, "2.2.2.2", "10.2.2.2", "10.0.0.0/8: 1")
	finds(t, k, "2.2.2.2", "11.2.2.2", "0.0.0.0/0: 3")
}

func TestAllLengths(t *testing.T) { // P20.5: of both families, the edges of each prefix
	for _, c := range []struct {
		any, a string
		bits   int
	}{{"0.0.0.0/0: 0", "170.85.240.15", 32}, {"::/0: 0", "2001:db8:5555:aaaa:ff00:ff:f0f0:f0f", 128}} {
		k := New()
		done(t, k, op(1, c.any))
		a := at(c.a)
		for n := 1; n <= c.bits; n++ {
			dst, _ := addr.Of(a, n)
			e := entry(c.any)
			e.Pair.Dst, e.If = dst, n
			done(t, k, api.Op{Kind: 1, Entry: e})
			if got, ok := k.Lookup(api.Addr(addr.Any(addr.Family(a)).A), a); !ok || got != e {
				t.Fatalf("with length %d: %v", n, got)
			}
		}
		for n := range c.bits { // the bit behind n others is turned round
			b := a
			bit := n + 128 - c.bits
			b[bit/8] ^= 0x80 >> (bit % 8)
			if got, ok := k.Lookup(b, b); !ok || got.If != n {
				t.Fatalf("%s: %v, want length %d", addr.Print(b), got, n)
			}
		}
	}
}

func TestFamiliesOfPackets(t *testing.T) { // P20.5
	k := New()
	done(t, k, op(1, "::/0: 1"), op(1, "10.0.0.0/8: 2"))
	finds(t, k, "::1", "10.2.2.2", "")
	finds(t, k, "10.2.2.2", "::1", "")
	finds(t, k, "10.2.2.2", "11.2.2.2", "") // ::/0 is of IPv6, though it has the bits of all mapped addresses
	finds(t, k, "10.2.2.2", "10.2.2.2", "10.0.0.0/8: 2")
	finds(t, k, "::1", "::a02:202", "::/0: 1") // not mapped
	done(t, k, op(1, "::/64 from ::fffe:0:0/95: 3"))
	finds(t, k, "1.1.1.1", "1.1.1.1", "")
	finds(t, k, "::fffe:1:1", "::1", "::/64 from ::fffe:0:0/95: 3")
	finds(t, k, "::1", "::1", "")
}

func TestListsRise(t *testing.T) { // P20.6
	rising := []string{"::/0: 1", "::/0 from 2001::/16: 2", "0.0.0.0/0: 3", "0.0.0.0/0 from 1.0.0.0/8: 4", "0.0.0.0/0 from 1.0.0.0/9: 5", "0.0.0.0/1: 6", "10.0.0.0/8: 7", "2001:db8::/32: 8"}
	for shift := range rising {
		k, own, others := New(), []string{}, []string{}
		for i, s := range rising {
			if i%3 == shift%3 {
				own = append(own, s)
			} else {
				others = append(others, s)
			}
		}
		for i := range rising { // put in from another end each time
			s := rising[(i*5+shift)%len(rising)]
			if slices.Contains(own, s) {
				done(t, k, op(1, s))
			} else if k.Import(entry(s)) != 1 {
				t.Fatal(s)
			}
		}
		has(t, k, own...)
		imported(t, k, others...)
	}
}

func TestWhatIsAnsweredIsNew(t *testing.T) { // P20.6, rule 3
	k := New()
	done(t, k, op(1, "10.0.0.0/8: 1"), op(1, "11.0.0.0/8: 1"))
	k.Import(entries("12.0.0.0/8: 2", "13.0.0.0/8: 2")...)
	for _, l := range [][]api.Entry{k.List(), k.Imported()} {
		for i := range l[:cap(l)] {
			l[:cap(l)][i] = entry("::/0: 9")
		}
	}
	has(t, k, "10.0.0.0/8: 1", "11.0.0.0/8: 1")
	imported(t, k, "12.0.0.0/8: 2", "13.0.0.0/8: 2")
}

func TestWhatIsHandedInIsNotKept(t *testing.T) { // P20.4, rule 3
	k := New()
	l := entries("12.0.0.0/8: 2", "12.0.0.0/8: 3", "13.0.0.0/8: 2", "14.0.0.0/8: 2")
	k.Import(l[:3]...)
	if !slices.Equal(l, entries("12.0.0.0/8: 2", "12.0.0.0/8: 3", "13.0.0.0/8: 2", "14.0.0.0/8: 2")) {
		t.Fatalf("Import changed its list: %v", l)
	}
	l[0], l[2] = entry("::/0: 9"), entry("::/0: 9")
	imported(t, k, "12.0.0.0/8: 2", "13.0.0.0/8: 2")
}

func TestCopyIsApart(t *testing.T) { // P20.6
	k := New()
	done(t, k, op(1, "10.0.0.0/8: 1"), op(1, "10.0.0.0/8 from 1.0.0.0/8: 2"))
	k.Import(entry("11.0.0.0/8: 3"))
	k.Fail(2)
	c, d := k.Copy(), k.Copy()
	refused(t, c, op(1, "::/0: 1"), op(1, "::/0: 1")) // it fails as often
	done(t, c, op(1, "::/0: 1"), op(3, "10.0.0.0/8: 1"), op(2, "10.0.0.0/8 from 1.0.0.0/8: 5"), op(1, "10.0.0.0/8 from 2.0.0.0/8: 6"))
	c.Import(entry("12.0.0.0/8: 4"))
	has(t, c, "::/0: 1", "10.0.0.0/8 from 1.0.0.0/8: 5", "10.0.0.0/8 from 2.0.0.0/8: 6")
	imported(t, c, "11.0.0.0/8: 3", "12.0.0.0/8: 4")
	for _, same := range []*Kernel{k, d} {
		has(t, same, "10.0.0.0/8: 1", "10.0.0.0/8 from 1.0.0.0/8: 2")
		imported(t, same, "11.0.0.0/8: 3")
	}
	refused(t, k, op(1, "::/0: 1"), op(1, "::/0: 1"))
	done(t, k, op(1, "::/0: 8"), op(3, "10.0.0.0/8 from 1.0.0.0/8: 2"))
	d.Fail(0)
	done(t, d, op(3, "10.0.0.0/8: 1"))
	has(t, k, "::/0: 8", "10.0.0.0/8: 1")
	has(t, c, "::/0: 1", "10.0.0.0/8 from 1.0.0.0/8: 5", "10.0.0.0/8 from 2.0.0.0/8: 6")
	finds(t, c, "1.1.1.1", "10.1.1.1", "10.0.0.0/8 from 1.0.0.0/8: 5")
	finds(t, d, "3.1.1.1", "10.1.1.1", "")
}

func TestANilKernel(t *testing.T) { // P20.6
	var k *Kernel
	if k.Do(op(1, "10.0.0.0/8: 1")) || k.Import(entry("10.0.0.0/8: 1")) != 0 || k.Copy() != nil {
		t.Error("a nil kernel does something")
	}
	k.Fail(1)
	has(t, k)
	imported(t, k)
	finds(t, k, "1.1.1.1", "10.0.0.1", "")
}
