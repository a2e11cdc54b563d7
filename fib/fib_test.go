package fib

import (
	"math"
	"slices"
	"testing"

	"culvert/api"
)

const latest = 1 << 40 // of times

// next fails unless Next has that operation.
func next(t *testing.T, f *Fib, now, kind int, e string) {
	t.Helper()
	want := api.Op{Kind: kind, Entry: entry(e)}
	if op, ok := f.Next(now); !ok || op != want {
		t.Fatalf("Next(%d) = %v, %v, want %v", now, op, ok, want)
	}
	if f.Drained() {
		t.Fatal("Drained with an operation under way")
	}
	nothing(t, f, now)
}

// nothing fails unless Next has no operation.
func nothing(t *testing.T, f *Fib, now int) {
	t.Helper()
	if op, ok := f.Next(now); ok || op != (api.Op{}) {
		t.Fatalf("Next(%d) = %v, %v, want none", now, op, ok)
	}
}

// reply fails unless something is under way.
func reply(t *testing.T, f *Fib, now int, ok bool) {
	t.Helper()
	if e := f.Reply(now, ok); e != api.OK {
		t.Fatalf("Reply(%d, %v) = %d", now, ok, e)
	}
	if e := f.Reply(now, ok); e != api.ErrNone {
		t.Fatalf("Reply(%d, %v) again = %d", now, ok, e)
	}
}

// done is an operation that comes next, and that the kernel does.
func done(t *testing.T, f *Fib, now, kind int, e string) {
	t.Helper()
	next(t, f, now, kind, e)
	reply(t, f, now, true)
}

// fails is one that it does not.
func fails(t *testing.T, f *Fib, now, kind int, e string) {
	t.Helper()
	next(t, f, now, kind, e)
	reply(t, f, now, false)
}

// at fails unless At tells that time.
func at(t *testing.T, f *Fib, want int) {
	t.Helper()
	if got, ok := f.At(); got != want || !ok {
		t.Fatalf("At() = %d, %v, want %d", got, ok, want)
	}
}

// never fails unless At tells none.
func never(t *testing.T, f *Fib) {
	t.Helper()
	if got, ok := f.At(); got != 0 || ok {
		t.Fatalf("At() = %d, %v, want none", got, ok)
	}
}

// drained fails unless the kernel has just what is wanted, which is this.
func drained(t *testing.T, f *Fib, now int, want ...string) {
	t.Helper()
	nothing(t, f, now)
	never(t, f)
	is(t, "Has", f.Has(), want...)
	is(t, "Wanted", f.Wanted(), want...)
	if !f.Drained() {
		t.Fatal("not drained")
	}
}

// with is a Fib whose kernel has what these mean.
func with(t *testing.T, l ...string) *Fib {
	t.Helper()
	f := New()
	f.Want(entries(l...)...)
	for _, ok := f.Next(0); ok; _, ok = f.Next(0) {
		reply(t, f, 0, true)
	}
	if !f.Drained() {
		t.Fatal("not drained")
	}
	return f
}

func TestANewFibWantsNothing(t *testing.T) { // P19.2
	f := New()
	if f == nil {
		t.Fatal("nil")
	}
	for _, now := range []int{0, 1, latest} {
		drained(t, f, now)
		if e := f.Reply(now, true); e != api.ErrNone {
			t.Error(e)
		}
		if e := f.Reply(now, false); e != api.ErrNone {
			t.Error(e)
		}
	}
	f.Want()
	drained(t, f, 0)
	f.Want(wrong()...)
	drained(t, f, 0)
}

func TestANilFib(t *testing.T) { // P19.6
	var f *Fib
	f.Want()
	f.Want(entries("10.0.0.0/8: 1")...)
	drained(t, f, 0)
	for _, ok := range []bool{true, false} {
		if e := f.Reply(0, ok); e != api.ErrNone {
			t.Error(e)
		}
	}
	drained(t, f, latest)
}

func TestTheChaptersExample(t *testing.T) { // P19.3 to P19.5
	f := New()
	f.Want(entries("10.0.0.0/8: 1")...)
	fails(t, f, 5, api.OpAdd, "10.0.0.0/8: 1")
	nothing(t, f, 6)
	nothing(t, f, 1004)
	done(t, f, 1005, api.OpAdd, "10.0.0.0/8: 1")
	drained(t, f, 1005, "10.0.0.0/8: 1")
	f.Want()
	done(t, f, 1006, api.OpRemove, "10.0.0.0/8: 1")
	drained(t, f, 1006)
}

func TestWantIsOfWhatExpandTells(t *testing.T) { // P19.3
	f := New()
	f.Want(entries("2001::/16: 2", "2001::/16: 3", "::/0 from 2001:db8::/32: 1")...)
	want := []string{"::/0 from 2001:db8::/32: 1", "2001::/16: 2", "2001::/16 from 2001:db8::/32: 2"}
	is(t, "Wanted", f.Wanted(), want...)
	is(t, "Has", f.Has())
	if f.Drained() {
		t.Error("drained")
	}
	for _, e := range want {
		done(t, f, 0, api.OpAdd, e)
	}
	drained(t, f, 0, want...)
	f.Want(entries("2001::/16: 2", "::/0 from 2001:db8::/32: 1")...) // the same again
	drained(t, f, 0, want...)
	f.Want(entries("2001::/16: 2")...) // what was added goes with what it was added for
	done(t, f, 1, api.OpRemove, "::/0 from 2001:db8::/32: 1")
	done(t, f, 1, api.OpRemove, "2001::/16 from 2001:db8::/32: 2")
	drained(t, f, 1, "2001::/16: 2")
}

func TestWantTakesThePlaceOfWhatWasWanted(t *testing.T) { // P19.3
	f := New()
	f.Want(entries("10.0.0.0/8: 1")...)
	f.Want(entries("11.0.0.0/8: 2")...)
	is(t, "Wanted", f.Wanted(), "11.0.0.0/8: 2")
	done(t, f, 0, api.OpAdd, "11.0.0.0/8: 2")
	drained(t, f, 0, "11.0.0.0/8: 2")
	f.Want(entries("12.0.0.0/8: 3")...)
	f.Want(entries("11.0.0.0/8: 2")...)
	drained(t, f, 0, "11.0.0.0/8: 2")
}

func TestRemovalsComeFirst(t *testing.T) { // P19.4
	f := with(t, "10.0.0.0/8: 1", "20.0.0.0/8: 2", "30.0.0.0/8: 3", "40.0.0.0/8: 4")
	f.Want(entries("5.0.0.0/8: 5", "10.0.0.0/8: 6", "25.0.0.0/8: 7", "30.0.0.0/8: 3")...)
	done(t, f, 0, api.OpRemove, "20.0.0.0/8: 2")
	done(t, f, 0, api.OpRemove, "40.0.0.0/8: 4")
	done(t, f, 0, api.OpAdd, "5.0.0.0/8: 5") // adds and changes by rising pairs
	done(t, f, 0, api.OpChange, "10.0.0.0/8: 6")
	done(t, f, 0, api.OpAdd, "25.0.0.0/8: 7")
	drained(t, f, 0, "5.0.0.0/8: 5", "10.0.0.0/8: 6", "25.0.0.0/8: 7", "30.0.0.0/8: 3")
}

func TestPairsComeByRisingOnes(t *testing.T) { // P19.4
	rising := []string{"::/0: 1", "::/0 from 1::/16: 2", "::/1: 3", "0.0.0.0/0: 4", "0.0.0.0/0 from 9.0.0.0/8: 5", "10.0.0.0/8 from 9.0.0.0/8: 6", "2001::/16: 7", "fe80::/64: 8"}
	l := entries(rising...)
	for range 3 {
		f := New()
		slices.Reverse(l)
		f.Want(l...)
		want := f.Wanted()
		for _, kind := range []int{api.OpAdd, api.OpRemove} {
			for _, e := range want {
				if op, ok := f.Next(0); !ok || op != (api.Op{Kind: kind, Entry: e}) {
					t.Fatal(op, ok)
				}
				reply(t, f, 0, true)
			}
			f.Want()
		}
		drained(t, f, 0)
	}
}

func TestChange(t *testing.T) { // P19.4
	for name, e := range map[string]api.Entry{
		"If":      {Pair: pair("10.0.0.0/8"), If: 2, Hop: hop(1)},
		"Hop":     {Pair: pair("10.0.0.0/8"), If: 1, Hop: hop(2)},
		"both":    {Pair: pair("10.0.0.0/8"), If: 2, Hop: hop(2)},
		"no Hop":  {Pair: pair("10.0.0.0/8"), If: 1},
		"nothing": {Pair: pair("10.0.0.0/8"), If: 1, Hop: hop(1)},
	} {
		f := with(t, "10.0.0.0/8: 1", "11.0.0.0/8: 1")
		f.Want(e, entry("11.0.0.0/8: 1"))
		if name == "nothing" {
			drained(t, f, 0, "10.0.0.0/8: 1", "11.0.0.0/8: 1")
			continue
		}
		if op, ok := f.Next(0); !ok || op != (api.Op{Kind: api.OpChange, Entry: e}) {
			t.Fatalf("%s: %v, %v", name, op, ok)
		}
		is(t, name, f.Has(), "10.0.0.0/8: 1", "11.0.0.0/8: 1") // not yet
		reply(t, f, 0, true)
		if !f.Drained() || f.Has()[0] != e {
			t.Errorf("%s: %v", name, f.Has())
		}
	}
}

func TestRemoveTellsWhatTheKernelHas(t *testing.T) { // P19.4
	f := with(t, "10.0.0.0/8: 1")
	f.Want(entries("10.0.0.0/8: 2")...)
	fails(t, f, 0, api.OpChange, "10.0.0.0/8: 2")
	f.Want()
	done(t, f, 1000, api.OpRemove, "10.0.0.0/8: 1") // the one that was not changed
	drained(t, f, 1000)
}

func TestOneAtATime(t *testing.T) { // P19.4
	f := New()
	f.Want(entries("10.0.0.0/8: 1", "11.0.0.0/8: 2")...)
	next(t, f, 0, api.OpAdd, "10.0.0.0/8: 1")
	for _, now := range []int{0, 1, 1000, latest} {
		nothing(t, f, now)
	}
	f.Want(entries("9.0.0.0/8: 3")...)
	nothing(t, f, latest) // what is wanted meanwhile waits too
	is(t, "Has", f.Has())
	reply(t, f, latest, true)
	is(t, "Has", f.Has(), "10.0.0.0/8: 1")
	done(t, f, latest, api.OpRemove, "10.0.0.0/8: 1")
	done(t, f, latest, api.OpAdd, "9.0.0.0/8: 3")
	drained(t, f, latest, "9.0.0.0/8: 3")
}

func TestWantWhileAnOperationIsUnderWay(t *testing.T) { // P19.3, P19.5
	for _, ok := range []bool{true, false} {
		f := New() // an add, of what is not wanted any more
		f.Want(entries("10.0.0.0/8: 1")...)
		next(t, f, 0, api.OpAdd, "10.0.0.0/8: 1")
		f.Want()
		if f.Drained() {
			t.Error("drained")
		}
		reply(t, f, 0, ok)
		if ok {
			done(t, f, 0, api.OpRemove, "10.0.0.0/8: 1")
		}
		drained(t, f, 0)

		f = with(t, "10.0.0.0/8: 1") // a removal, of what is wanted again
		f.Want()
		next(t, f, 0, api.OpRemove, "10.0.0.0/8: 1")
		f.Want(entries("10.0.0.0/8: 1")...)
		if f.Drained() {
			t.Error("drained")
		}
		reply(t, f, 0, ok)
		if ok {
			done(t, f, 0, api.OpAdd, "10.0.0.0/8: 1")
		}
		drained(t, f, 0, "10.0.0.0/8: 1")

		f = with(t, "10.0.0.0/8: 1") // a change, of what is to be another one still
		f.Want(entries("10.0.0.0/8: 2")...)
		next(t, f, 0, api.OpChange, "10.0.0.0/8: 2")
		f.Want(entries("10.0.0.0/8: 3")...)
		reply(t, f, 0, ok)
		if !ok {
			is(t, "Has", f.Has(), "10.0.0.0/8: 1")
			nothing(t, f, 999)
		}
		done(t, f, 1000, api.OpChange, "10.0.0.0/8: 3")
		drained(t, f, 1000, "10.0.0.0/8: 3")
	}
}

func TestReply(t *testing.T) { // P19.5
	f := New()
	f.Want(entries("10.0.0.0/8: 1")...)
	if e := f.Reply(0, true); e != api.ErrNone || len(f.Has()) != 0 { // nothing is under way yet
		t.Fatal(e, f.Has())
	}
	if e := f.Reply(0, false); e != api.ErrNone {
		t.Fatal(e)
	}
	never(t, f)
	fails(t, f, 0, api.OpAdd, "10.0.0.0/8: 1")
	is(t, "Has", f.Has())
	done(t, f, 1000, api.OpAdd, "10.0.0.0/8: 1")
	is(t, "Has", f.Has(), "10.0.0.0/8: 1")
	f.Want(entries("10.0.0.0/8: 2")...)
	fails(t, f, 1000, api.OpChange, "10.0.0.0/8: 2")
	is(t, "Has", f.Has(), "10.0.0.0/8: 1")
	done(t, f, 2000, api.OpChange, "10.0.0.0/8: 2")
	is(t, "Has", f.Has(), "10.0.0.0/8: 2")
	f.Want()
	fails(t, f, 2000, api.OpRemove, "10.0.0.0/8: 2")
	is(t, "Has", f.Has(), "10.0.0.0/8: 2")
	done(t, f, 3000, api.OpRemove, "10.0.0.0/8: 2")
	is(t, "Has", f.Has())
}

func TestTheGapBeginsWithTheReply(t *testing.T) { // P19.4, P19.5
	for _, sent := range []int{0, 1, 7777, latest - 2000} {
		f := New()
		f.Want(entries("10.0.0.0/8: 1")...)
		next(t, f, sent, api.OpAdd, "10.0.0.0/8: 1")
		reply(t, f, sent+300, false)
		at(t, f, sent+1300)
		nothing(t, f, sent+300)
		nothing(t, f, sent+1000)
		nothing(t, f, sent+1299)
		at(t, f, sent+1300)
		next(t, f, sent+1300, api.OpAdd, "10.0.0.0/8: 1")
		reply(t, f, sent+1301, false) // and once more
		at(t, f, sent+2301)
		nothing(t, f, sent+2300)
		done(t, f, sent+2301, api.OpAdd, "10.0.0.0/8: 1")
		never(t, f)
	}
}

func TestOthersGoOnMeanwhile(t *testing.T) { // P19.4
	f := with(t, "10.0.0.0/8: 1", "11.0.0.0/8: 2")
	f.Want(entries("20.0.0.0/8: 3", "21.0.0.0/8: 4")...)
	fails(t, f, 0, api.OpRemove, "10.0.0.0/8: 1")
	done(t, f, 100, api.OpRemove, "11.0.0.0/8: 2")
	fails(t, f, 200, api.OpAdd, "20.0.0.0/8: 3") // a removal that has to wait keeps none of the others back
	done(t, f, 300, api.OpAdd, "21.0.0.0/8: 4")
	nothing(t, f, 999)
	at(t, f, 1000)
	f.Want(entries("20.0.0.0/8: 3", "21.0.0.0/8: 4", "22.0.0.0/8: 5")...)
	next(t, f, 999, api.OpAdd, "22.0.0.0/8: 5")
	reply(t, f, 1200, true)
	done(t, f, 1200, api.OpRemove, "10.0.0.0/8: 1") // both are ready again: the removal is ahead
	done(t, f, 1200, api.OpAdd, "20.0.0.0/8: 3")
	drained(t, f, 1200, "20.0.0.0/8: 3", "21.0.0.0/8: 4", "22.0.0.0/8: 5")
}

func TestOneThatIsReadyAgainTakesItsPlace(t *testing.T) { // P19.4
	f := New()
	f.Want(entries("10.0.0.0/8: 1", "11.0.0.0/8: 2", "12.0.0.0/8: 3", "13.0.0.0/8: 4")...)
	fails(t, f, 0, api.OpAdd, "10.0.0.0/8: 1")
	fails(t, f, 10, api.OpAdd, "11.0.0.0/8: 2")
	done(t, f, 999, api.OpAdd, "12.0.0.0/8: 3")
	done(t, f, 1000, api.OpAdd, "10.0.0.0/8: 1") // ahead of what was not tried yet
	done(t, f, 1009, api.OpAdd, "13.0.0.0/8: 4")
	nothing(t, f, 1009)
	done(t, f, 1010, api.OpAdd, "11.0.0.0/8: 2")
	drained(t, f, 1010, "10.0.0.0/8: 1", "11.0.0.0/8: 2", "12.0.0.0/8: 3", "13.0.0.0/8: 4")
}

func TestAPairWaitsWhateverIsToBeDone(t *testing.T) { // P19.4: of a pair whose last operation failed
	f := with(t, "10.0.0.0/8: 1")
	f.Want()
	fails(t, f, 500, api.OpRemove, "10.0.0.0/8: 1")
	f.Want(entries("10.0.0.0/8: 2")...) // then a change is to be done
	nothing(t, f, 1499)
	at(t, f, 1500)
	fails(t, f, 1500, api.OpChange, "10.0.0.0/8: 2")
	f.Want()
	nothing(t, f, 2499)
	at(t, f, 2500)
	done(t, f, 2500, api.OpRemove, "10.0.0.0/8: 1")
	f.Want(entries("10.0.0.0/8: 2")...) // its last operation did not fail
	fails(t, f, 2500, api.OpAdd, "10.0.0.0/8: 2")
	f.Want(entries("10.0.0.0/8: 3")...)
	nothing(t, f, 3499)
	done(t, f, 3500, api.OpAdd, "10.0.0.0/8: 3")
	drained(t, f, 3500, "10.0.0.0/8: 3")
}

func TestAPairWithNothingToDoHasNoTime(t *testing.T) { // P19.6
	f := New()
	f.Want(entries("10.0.0.0/8: 1")...)
	fails(t, f, 0, api.OpAdd, "10.0.0.0/8: 1")
	at(t, f, 1000)
	f.Want() // the kernel has it not, and is not to have it
	drained(t, f, 10)
	f.Want(entries("10.0.0.0/8: 1")...) // its last operation is the one that failed still
	nothing(t, f, 20)
	at(t, f, 1000)
	nothing(t, f, 999)
	f.Want(entries("10.0.0.0/8: 1", "9.0.0.0/8: 1")...)
	done(t, f, 999, api.OpAdd, "9.0.0.0/8: 1")
	done(t, f, 1000, api.OpAdd, "10.0.0.0/8: 1")
	drained(t, f, 1000, "9.0.0.0/8: 1", "10.0.0.0/8: 1")

	f = with(t, "10.0.0.0/8: 1")
	f.Want()
	fails(t, f, 0, api.OpRemove, "10.0.0.0/8: 1")
	f.Want(entries("10.0.0.0/8: 1")...) // the kernel has it still, and is to have it
	drained(t, f, 10, "10.0.0.0/8: 1")
}

func TestAtIsTheFirstOfAll(t *testing.T) { // P19.6
	f := New()
	f.Want(entries("10.0.0.0/8: 1", "11.0.0.0/8: 2", "12.0.0.0/8: 3")...)
	never(t, f) // what was not tried has no time
	fails(t, f, 100, api.OpAdd, "10.0.0.0/8: 1")
	at(t, f, 1100)
	fails(t, f, 200, api.OpAdd, "11.0.0.0/8: 2")
	at(t, f, 1100)
	f.Want(entries("11.0.0.0/8: 2", "12.0.0.0/8: 3")...)
	at(t, f, 1200)
	done(t, f, 1150, api.OpAdd, "12.0.0.0/8: 3")
	at(t, f, 1200)
	f.Want(entries("10.0.0.0/8: 1", "11.0.0.0/8: 2", "12.0.0.0/8: 3")...)
	at(t, f, 1100) // a time that has gone by is told all the same
	fails(t, f, 1150, api.OpAdd, "10.0.0.0/8: 1")
	at(t, f, 1200)
	done(t, f, 2000, api.OpAdd, "11.0.0.0/8: 2")
	at(t, f, 2150)
	nothing(t, f, 2149)
	done(t, f, 2150, api.OpAdd, "10.0.0.0/8: 1")
	never(t, f)
}

func TestDrained(t *testing.T) { // P19.6
	f := New()
	for _, c := range []struct {
		want    []string
		kind    int
		e       string
		reply   bool
		drained bool
	}{
		{[]string{"10.0.0.0/8: 1"}, api.OpAdd, "10.0.0.0/8: 1", true, true},
		{[]string{"10.0.0.0/8: 2"}, api.OpChange, "10.0.0.0/8: 2", true, true},
		{[]string{"10.0.0.0/8: 3"}, api.OpChange, "10.0.0.0/8: 3", false, false},
		{[]string{"10.0.0.0/8: 2", "11.0.0.0/8: 1"}, api.OpAdd, "11.0.0.0/8: 1", true, true},
		{[]string{"11.0.0.0/8: 1", "12.0.0.0/8: 1"}, api.OpAdd, "12.0.0.0/8: 1", true, false}, // 10.0.0.0/8 is to go, and has to wait
	} {
		f.Want(entries(c.want...)...)
		if f.Drained() {
			t.Errorf("%v: drained ahead of it", c.want)
		}
		next(t, f, 0, c.kind, c.e)
		reply(t, f, 0, c.reply)
		if f.Drained() != c.drained {
			t.Errorf("%v: Drained is %v", c.want, f.Drained())
		}
	}
}

func TestNothingIsShared(t *testing.T) { // rule 3
	l := entries("10.0.0.0/8: 1", "11.0.0.0/8: 2", "12.0.0.0/8: 3")
	f := New()
	f.Want(l[:2]...)
	is(t, "the argument", l, "10.0.0.0/8: 1", "11.0.0.0/8: 2", "12.0.0.0/8: 3")
	clear(l)
	is(t, "Wanted", f.Wanted(), "10.0.0.0/8: 1", "11.0.0.0/8: 2")
	done(t, f, 0, api.OpAdd, "10.0.0.0/8: 1")
	done(t, f, 0, api.OpAdd, "11.0.0.0/8: 2")
	for range 2 {
		for _, a := range [][]api.Entry{f.Has(), f.Wanted()} {
			is(t, "an answer", a, "10.0.0.0/8: 1", "11.0.0.0/8: 2")
			clear(a[:cap(a)])
		}
	}
	drained(t, f, 0, "10.0.0.0/8: 1", "11.0.0.0/8: 2")
}

func TestTwoFibsAreApart(t *testing.T) { // rule 4
	f, g := New(), New()
	f.Want(entries("10.0.0.0/8: 1")...)
	drained(t, g, 0)
	fails(t, f, 0, api.OpAdd, "10.0.0.0/8: 1")
	g.Want(entries("10.0.0.0/8: 1")...)
	done(t, g, 0, api.OpAdd, "10.0.0.0/8: 1")
	at(t, f, 1000)
	is(t, "Has", f.Has())
}

func TestAnyTimeEnds(t *testing.T) { // rule 1
	for _, now := range []int{math.MinInt, -1, 0, latest, math.MaxInt - 999, math.MaxInt} {
		f := New()
		f.Want(entries("10.0.0.0/8: 1", "11.0.0.0/8: 2")...)
		for _, ok := range []bool{false, true, false} {
			f.Next(now)
			f.Reply(now, ok)
			f.At()
			f.Drained()
		}
	}
}

func TestVeryManyDrain(t *testing.T) { // P19.8
	var l []api.Entry
	for n := range 200 {
		p := api.Prefix{A: api.Addr{0: 0x20, 1: byte(n >> 8), 2: byte(n)}, Len: 24}
		l = append(l, api.Entry{Pair: api.Pair{Dst: p}, If: n}, api.Entry{Pair: api.Pair{Src: p}, If: n})
	}
	f := New()
	f.Want(l...)
	all := len(f.Wanted())
	for _, want := range [][]api.Entry{nil, l[1:], nil} {
		n := 0
		for now := 0; now < 2000; now += 1000 { // all fail once
			for _, ok := f.Next(now); ok; _, ok = f.Next(now) {
				f.Reply(now, now > 0)
				n++
			}
		}
		if n != 2*all || !f.Drained() {
			t.Fatalf("%d operations for %d entries", n, all)
		}
		f.Want(want...)
		all = max(len(f.Has()), len(f.Wanted()))
	}
}
