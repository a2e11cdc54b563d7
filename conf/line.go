package conf

import (
	"slices"

	"culvert/addr"
	"culvert/api"
	"culvert/words"
)

// most is the greatest number that a text may have, whatever it counts.
const most = 9999999

// line is those words of a line that are still to be read, and the first error. Behind an error there are no words any more, so that who reads on does no harm.
type line struct {
	words []string
	err   api.Errno
}

// fail keeps an error, unless one was met ahead of it.
func (l *line) fail(e api.Errno) {
	l.words = nil
	if l.err == api.OK {
		l.err = e
	}
}

func (l *line) more() bool {
	return len(l.words) > 0
}

// end refuses a word that is one too many.
func (l *line) end() {
	if l.more() {
		l.fail(api.ErrWord)
	}
}

// take answers the next word as what it is; wrong is the error if it is none.
func take[T any](l *line, wrong api.Errno, read func(string) (T, bool)) T {
	var none T
	if !l.more() {
		l.fail(api.ErrWord)
		return none
	}
	v, ok := read(l.words[0])
	if !ok {
		l.fail(wrong)
		return none
	}
	l.words = l.words[1:]
	return v
}

// value makes of what tells an error by its number one that tells only whether it was read: within a line all these are ErrValue.
func value[T any](read func(string) (T, api.Errno)) func(string) (T, bool) {
	return func(s string) (T, bool) {
		v, e := read(s)
		return v, e == api.OK
	}
}

// oneOf takes a word that is one of these, as its place among them.
func oneOf(list ...string) func(string) (int, bool) {
	return func(s string) (int, bool) {
		at := slices.Index(list, s)
		return at, at >= 0
	}
}

// text takes a word as it stands.
func (l *line) text() string {
	return take(l, api.ErrWord, func(s string) (string, bool) { return s, true })
}

func (l *line) number() int {
	return take(l, api.ErrValue, func(s string) (int, bool) { return words.Number(s, most) })
}

func (l *line) id() api.RouterId {
	return take(l, api.ErrValue, words.ParseId)
}

func (l *line) address() api.Addr {
	return take(l, api.ErrValue, value(addr.Parse))
}

func (l *line) prefix() api.Prefix {
	return take(l, api.ErrValue, value(addr.ParsePrefix))
}

// pair takes a prefix, or two with from between. Of the latter what is wrong with either is told at the last word alone.
func (l *line) pair() api.Pair {
	ahead := ""
	if len(l.words) > 1 && l.words[1] == "from" {
		ahead = l.words[0] + " from "
		l.words = l.words[2:]
	}
	return take(l, api.ErrValue, value(func(s string) (api.Pair, api.Errno) { return addr.ParsePair(ahead + s) }))
}

// once refuses what was said already; said counts how often each word was.
func (l *line) once(word string, said map[string]int) {
	said[word]++
	if said[word] > 1 {
		l.fail(api.ErrTwice)
	}
}

// attribute takes a word that leads to what reads those behind it.
func (l *line) attribute(readers map[string]func(), said map[string]int) {
	word := l.text()
	read, known := readers[word]
	if !known {
		l.fail(api.ErrWord)
		return
	}
	l.once(word, said)
	read()
}
