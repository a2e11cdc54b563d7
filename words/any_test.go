package words

import (
	"math/rand"
	"slices"
	"strings"
	"testing"

	"culvert/api"
)

// Where one stands within a line.
const (
	between = iota
	inWord
	inQuotation
	behindStroke
	behindQuotation
	inComment
)

// wordsByHand goes over a line once, byte by byte, beside Words: each byte is looked at by itself first, then where it stands.
func wordsByHand(line string) ([]string, api.Errno) {
	if len(line) > 1024 {
		return nil, 1
	}
	var l []string
	word, at := "", between
	for _, c := range []byte(line + " ") {
		if c < 32 || c > 126 {
			return nil, 81
		}
		switch {
		case at == inComment, at == between && c == ' ':
		case at == behindQuotation && c == ' ':
			at = between
		case at == between && c == '#':
			at = inComment
		case at == between && c == '"':
			at = inQuotation
		case at == between:
			at, word = inWord, string(rune(c))
		case at == inWord && c == ' ':
			l, word, at = append(l, word), "", between
		case at == inQuotation && c == '"':
			l, word, at = append(l, word), "", behindQuotation
		case at == inQuotation && c == '\\':
			at = behindStroke
		case at == behindStroke && c != '"' && c != '\\', at == behindQuotation:
			return nil, 80
		case at == behindStroke:
			word, at = word+string(rune(c)), inQuotation
		default:
			word += string(rune(c))
		}
	}
	if at == inQuotation { // elsewhere the blank that was put behind the line has ended what stood there, or was wrong
		return nil, 80
	}
	return l, 0
}

// linesByHand takes the lines of a text from the front, one by one.
func linesByHand(text string) ([]api.Line, api.Errno, int) {
	if len(text) > 65536 {
		return nil, 1, 0
	}
	var l []api.Line
	for n, more := 1, true; more; n++ {
		var line string
		line, text, more = strings.Cut(text, "\n")
		words, e := wordsByHand(line)
		if e != 0 {
			return nil, e, n
		}
		if words != nil {
			l = append(l, api.Line{N: n, Words: words})
		}
	}
	return l, 0, 0
}

// some makes a text of these bytes.
func some(r *rand.Rand, n int, of string) string {
	b := make([]byte, n)
	for i := range b {
		b[i] = of[r.Intn(len(of))]
	}
	return string(b)
}

func TestWordsOfEachShortLine(t *testing.T) { // P8.1
	const of = " #\"\\ab\t"
	n := 1
	for size := range 7 {
		for i := range n {
			b := make([]byte, size)
			for j, k := 0, i; j < size; j, k = j+1, k/len(of) {
				b[j] = of[k%len(of)]
			}
			line := string(b)
			got, e := Words(line)
			want, wantE := wordsByHand(line)
			if e != wantE || !slices.Equal(got, want) {
				t.Fatalf("Words(%q) = %q, %d, want %q, %d", line, got, e, want, wantE)
			}
		}
		n *= len(of)
	}
}

func TestWordsOfManyLines(t *testing.T) { // P8.1
	r := rand.New(rand.NewSource(1))
	right, wrong := 0, 0
	for range 30000 {
		of := []string{" #\"\\a", "  abc\"", " ab#", " \"\"\\\\", "  abcdefg\"\\#\x1f~\x7f", " a\xc3\xa4"}[r.Intn(6)]
		line := some(r, r.Intn(24), of)
		if r.Intn(50) == 0 {
			line += some(r, 1000+r.Intn(30), " ab#")
		}
		got, e := Words(line)
		want, wantE := wordsByHand(line)
		if e != wantE || !slices.Equal(got, want) {
			t.Fatalf("Words(%q) = %q, %d, want %q, %d", line, got, e, want, wantE)
		}
		if e == api.OK {
			right++
		} else {
			wrong++
		}
	}
	if right < 3000 || wrong < 3000 {
		t.Errorf("%d lines were right, %d wrong: too few of one kind", right, wrong)
	}
}

func TestLinesOfManyTexts(t *testing.T) { // P8.2
	r := rand.New(rand.NewSource(2))
	for range 5000 {
		of := []string{" ab\n\n", " a#\n", " a\"\n", "\n\n\n\n\"a \\", "ab #\n\n\n\n\n\t"}[r.Intn(5)]
		text := some(r, r.Intn(60), of)
		got, e, at := Lines(text)
		want, wantE, wantAt := linesByHand(text)
		if e != wantE || at != wantAt || !slices.EqualFunc(got, want, sameLine) {
			t.Fatalf("Lines(%q) = %v, %d, %d, want %v, %d, %d", text, got, e, at, want, wantE, wantAt)
		}
	}
}

func TestWordsOfJoinAreTheWords(t *testing.T) { // P8.6, and of P8.3 that no more is quoted than must be
	r := rand.New(rand.NewSource(3))
	var all []byte
	for c := byte(0x20); c <= 0x7e; c++ {
		all = append(all, c)
	}
	for range 20000 {
		of := []string{" #\"\\a", "ab", "\"\\", string(all)}[r.Intn(4)]
		var l []string
		long := 0
		for range r.Intn(8) {
			l = append(l, some(r, r.Intn(9), of))
			word := l[len(l)-1]
			long += len(word) + 1
			if word == "" || strings.ContainsRune("\"#", rune(word[0])) || strings.Contains(word, " ") {
				long += 2 + strings.Count(word, `"`) + strings.Count(word, `\`)
			}
		}
		line := Join(l...)
		got, e := Words(line)
		if e != api.OK || !slices.Equal(got, l) {
			t.Fatalf("Words(%s) = %q, %d, want %q", line, got, e, l)
		}
		if len(line) != max(long-1, 0) {
			t.Fatalf("Join(%q) = %s, of %d bytes, want %d", l, line, len(line), long-1)
		}
	}
}
