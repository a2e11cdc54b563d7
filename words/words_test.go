package words

import (
	"slices"
	"strings"
	"testing"
	"unsafe"

	"culvert/api"
)

// cuts is lines, and the words of each.
type cuts map[string][]string

func (c cuts) look(t *testing.T) {
	t.Helper()
	for line, want := range c {
		if got, e := Words(line); e != api.OK || !slices.Equal(got, want) {
			t.Errorf("Words(%q) = %q, %d, want %q", line, got, e, want)
		}
	}
}

// wrongs is lines, and the error of each.
type wrongs map[string]api.Errno

func (w wrongs) look(t *testing.T) {
	t.Helper()
	for line, want := range w {
		if got, e := Words(line); e != want || len(got) != 0 {
			t.Errorf("Words(%q) = %q, %d, want none, %d", line, got, e, want)
		}
	}
}

// strange is bytes that may be in no line: the edges of what may, those that other languages take for blanks, and those of which runes are made.
func strange() []string {
	return []string{"\x00", "\x01", "\t", "\n", "\r", "\x1f", "\x7f", "\x80", "\xa0", "\xff", "ä", "\u2028"}
}

func TestWordsArePartedByBlanks(t *testing.T) { // P8.1
	cuts{
		"":                                     nil,
		" ":                                    nil,
		"     ":                                nil,
		"a":                                    {"a"},
		"ab":                                   {"ab"},
		"a b":                                  {"a", "b"},
		" a b":                                 {"a", "b"},
		"a b ":                                 {"a", "b"},
		"   a     bc  d   ":                    {"a", "bc", "d"},
		"a a a":                                {"a", "a", "a"},
		"!$%&'()*+,-./:;<=>?@[]^_`{|}~ 09AZaz": {"!$%&'()*+,-./:;<=>?@[]^_`{|}~", "09AZaz"},
	}.look(t)
}

func TestWordsEndAtAComment(t *testing.T) { // P8.1
	cuts{
		`#`:          nil,
		`##`:         nil,
		`#a`:         nil,
		`# a "b`:     nil,
		`  #a b`:     nil,
		`a #`:        {"a"},
		`a #b c`:     {"a"},
		`a # b #c`:   {"a"},
		`a # "b"c \`: {"a"},
		`"a" #b`:     {"a"},
		`a#`:         {"a#"},
		`a# b`:       {"a#", "b"},
		`a#b#c d`:    {"a#b#c", "d"},
		`a b#c #d`:   {"a", "b#c"},
	}.look(t)
}

func TestWordsMayBeQuoted(t *testing.T) { // P8.1
	cuts{
		`""`:                {""},
		`"" ""`:             {"", ""},
		` "" `:              {""},
		`"a"`:               {"a"},
		`  "a"  "b"  `:      {"a", "b"},
		`"a b"`:             {"a b"},
		`" "`:               {" "},
		`"  a  b  "`:        {"  a  b  "},
		`"#"`:               {"#"},
		`"#a" "b #c" d`:     {"#a", "b #c", "d"},
		`"\""`:              {`"`},
		`"\\"`:              {`\`},
		`"a\"b"`:            {`a"b`},
		`"a\\b"`:            {`a\b`},
		`"a\\\"b"`:          {`a\"b`},
		`"\"\"" "\\\\"`:     {`""`, `\\`},
		`"a\\" b`:           {`a\`, "b"},
		`"a\\" "b"`:         {`a\`, "b"},
		`"a\" \"b" c`:       {`a" "b`, "c"},
		`"\\\\\"" x`:        {`\\"`, "x"},
		`a "b c" d#e #f`:    {"a", "b c", "d#e"},
		`x "" y`:            {"x", "", "y"},
		`"!'()~" "~" "\"#"`: {"!'()~", "~", `"#`},
	}.look(t)
}

func TestWordsTakeMarksWithinAWordAsTheyAre(t *testing.T) { // P8.1
	cuts{
		`a"`:        {`a"`},
		`a"b`:       {`a"b`},
		`a"b c"d`:   {`a"b`, `c"d`},
		`a"" b`:     {`a""`, "b"},
		`a="b" c`:   {`a="b"`, "c"},
		`\`:         {`\`},
		`\\`:        {`\\`},
		`\" a`:      {`\"`, "a"},
		`\"a b\"`:   {`\"a`, `b\"`},
		`a\ b`:      {`a\`, "b"},
		`a\"b\\c`:   {`a\"b\\c`},
		`a#"b #"c"`: {`a#"b`},
	}.look(t)
}

func TestWordsOfAQuotationThatIsNotRight(t *testing.T) { // P8.1
	wrongs{
		`"`:          api.ErrQuote,
		` "`:         api.ErrQuote,
		`"a`:         api.ErrQuote,
		`"a `:        api.ErrQuote,
		`"a b #c`:    api.ErrQuote,
		`a "b`:       api.ErrQuote,
		`"a" "`:      api.ErrQuote,
		`"a" "b`:     api.ErrQuote,
		`"\"`:        api.ErrQuote,
		`"a\"`:       api.ErrQuote,
		`"a\" b`:     api.ErrQuote,
		`"a\\\"`:     api.ErrQuote,
		`"\`:         api.ErrQuote,
		`"a\`:        api.ErrQuote,
		`"a\\\`:      api.ErrQuote,
		`"\a"`:       api.ErrQuote,
		`"\n"`:       api.ErrQuote,
		`"\0"`:       api.ErrQuote,
		`"\ "`:       api.ErrQuote,
		`"\#"`:       api.ErrQuote,
		`"\'"`:       api.ErrQuote,
		`"\/"`:       api.ErrQuote,
		`"a\\\b"`:    api.ErrQuote,
		`"a"b`:       api.ErrQuote,
		`"a"b"`:      api.ErrQuote,
		`"a""b"`:     api.ErrQuote,
		`"""`:        api.ErrQuote,
		`""""`:       api.ErrQuote,
		`"a"#`:       api.ErrQuote,
		`"a"# b`:     api.ErrQuote,
		`"a"\`:       api.ErrQuote,
		`"a\\"b`:     api.ErrQuote,
		`""x`:        api.ErrQuote,
		`a "b"c d`:   api.ErrQuote,
		`a b "c"d#e`: api.ErrQuote,
	}.look(t)
	for c := range 256 {
		s := string([]byte{byte(c)})
		if c < 0x20 || c > 0x7e {
			continue
		}
		if s != `"` && s != `\` {
			wrongs{`"\` + s + `"`: api.ErrQuote}.look(t)
		}
		if s != " " {
			wrongs{`""` + s: api.ErrQuote, `"" ""` + s + ` b`: api.ErrQuote}.look(t)
		}
	}
}

func TestWordsOfAByteThatMayNotBe(t *testing.T) { // P8.1
	for _, s := range strange() {
		wrongs{
			s:                   api.ErrByte,
			" " + s:             api.ErrByte,
			s + " ":             api.ErrByte,
			"a" + s:             api.ErrByte,
			s + "a":             api.ErrByte,
			"a" + s + "b":       api.ErrByte,
			"a b" + s + " c":    api.ErrByte,
			`"` + s + `"`:       api.ErrByte,
			`"a` + s + `b" c`:   api.ErrByte,
			`a "b" "c ` + s:     api.ErrByte,
			"#" + s:             api.ErrByte,
			"# a" + s:           api.ErrByte,
			"a # b " + s + " c": api.ErrByte,
			`"a" #` + s:         api.ErrByte,
		}.look(t)
	}
	for c := range 256 {
		s := string([]byte{byte(c)})
		want := api.OK
		if c < 0x20 || c > 0x7e {
			want = api.ErrByte
		}
		quotable := s
		if s == `"` || s == `\` {
			quotable = `\` + s
		}
		for _, line := range []string{"x" + s, "# " + s, `"x` + quotable + `"`} {
			if _, e := Words(line); e != want {
				t.Errorf("Words(%q): %d, want %d", line, e, want)
			}
		}
	}
}

func TestWordsTellTheFirstErrorFromTheLeft(t *testing.T) { // P8.1
	for _, s := range strange() {
		wrongs{
			"a" + s + ` "b`:        api.ErrByte,
			s + ` "a"b`:            api.ErrByte,
			`"a` + s + `b"c`:       api.ErrByte,
			`"a` + s + `\b"`:       api.ErrByte,
			`"a` + s:               api.ErrByte, // that it does not end is told at the end
			`"a b #` + s + ` c\`:   api.ErrByte,
			`"a"b ` + s:            api.ErrQuote,
			`"a"b` + s:             api.ErrQuote,
			`"a"# ` + s:            api.ErrQuote,
			`"\a` + s + `"`:        api.ErrQuote,
			`"a\b" c` + s:          api.ErrQuote,
			`"a" "b"c d` + s + `"`: api.ErrQuote,
			`"a"` + s:              api.ErrByte, // at one place the one that is named first
			`"a" "b"` + s + ` c`:   api.ErrByte,
			`"a\` + s + `b"`:       api.ErrByte,
			`"\` + s:               api.ErrByte,
		}.look(t)
	}
}

func TestWordsOfALongLine(t *testing.T) { // P8.1
	x := strings.Repeat("x", 1021)
	cuts{
		x + "xyz":                             {x + "xyz"},
		x + " yz":                             {x, "yz"},
		strings.Repeat(" ", 1024):             nil,
		`"` + x + `x"`:                        {x + "x"},
		"a #" + x:                             {"a"},
		strings.Repeat("a ", 512):             slices.Repeat([]string{"a"}, 512),
		strings.Repeat(`"" `, 341):            slices.Repeat([]string{""}, 341),
		`"` + strings.Repeat(`\\`, 511) + `"`: {strings.Repeat(`\`, 511)},
	}.look(t)
	wrongs{
		x + "xyza":                     api.ErrLong,
		x + "xy z":                     api.ErrLong,
		x + "xyz ":                     api.ErrLong,
		strings.Repeat(" ", 1025):      api.ErrLong,
		`"` + x + `xy"`:                api.ErrLong,
		"#" + x + "xyz":                api.ErrLong,
		`"` + x + "xyz":                api.ErrLong, // ahead of the others, wherever these are
		"\x00" + x + "xyz":             api.ErrLong,
		`"a"b` + "\xff" + x:            api.ErrLong,
		strings.Repeat("a ", 1<<20):    api.ErrLong,
		strings.Repeat("\x00", 100000): api.ErrLong,
		x + `x "`:                      api.ErrQuote,
		x + "xy\x7f":                   api.ErrByte,
		"# " + x + "\x1f":              api.ErrByte,
	}.look(t)
}

func TestLinesHaveTheirNumbers(t *testing.T) { // P8.2
	for text, want := range map[string][]api.Line{
		"":                      nil,
		"\n":                    nil,
		"\n\n\n":                nil,
		" \n#a\n  # \"b\n":      nil,
		"a":                     {{N: 1, Words: []string{"a"}}},
		"a\n":                   {{N: 1, Words: []string{"a"}}},
		"a b\n\n":               {{N: 1, Words: []string{"a", "b"}}},
		"\na":                   {{N: 2, Words: []string{"a"}}},
		"\n# x\na b\n":          {{N: 3, Words: []string{"a", "b"}}},
		"a\nb":                  {{N: 1, Words: []string{"a"}}, {N: 2, Words: []string{"b"}}},
		"a\nb\n":                {{N: 1, Words: []string{"a"}}, {N: 2, Words: []string{"b"}}},
		"a\na\na":               {{N: 1, Words: []string{"a"}}, {N: 2, Words: []string{"a"}}, {N: 3, Words: []string{"a"}}},
		"a #x\n\n   \n#\n b c ": {{N: 1, Words: []string{"a"}}, {N: 5, Words: []string{"b", "c"}}},
		"\"\"\n\n\" \" \"#\"":   {{N: 1, Words: []string{""}}, {N: 3, Words: []string{" ", "#"}}},
		"# \"\na\n# \"":         {{N: 2, Words: []string{"a"}}},
	} {
		l, e, at := Lines(text)
		if e != api.OK || at != 0 || !slices.EqualFunc(l, want, sameLine) {
			t.Errorf("Lines(%q) = %v, %d, %d, want %v", text, l, e, at, want)
		}
	}
}

func sameLine(a, b api.Line) bool {
	return a.N == b.N && slices.Equal(a.Words, b.Words)
}

func TestLinesTellTheFirstLineWithAnError(t *testing.T) { // P8.2
	long := strings.Repeat("x", 1025)
	for _, c := range []struct {
		text string
		e    api.Errno
		at   int
	}{
		{"\"", api.ErrQuote, 1},
		{"a\n\"", api.ErrQuote, 2},
		{"a\nb\nc \"d\ne\n", api.ErrQuote, 3},
		{"\n\n# \"\n\"a\"b\n\n", api.ErrQuote, 4},
		{"a \"b\nc\"", api.ErrQuote, 1}, // a quotation does not go beyond its line
		{"\"a\\\n\"", api.ErrQuote, 1},
		{"a\tb", api.ErrByte, 1},
		{"a\r\nb\r\n", api.ErrByte, 1},
		{"a\nb\n# \x00", api.ErrByte, 3},
		{"a\n\x7f\n\"b\n", api.ErrByte, 2},
		{"a\n\"b\n\x7f\n", api.ErrQuote, 2},
		{long, api.ErrLong, 1},
		{"a\n#" + long + "\n\"", api.ErrLong, 2},
		{"a\n\"\n" + long, api.ErrQuote, 2},
		{"\n" + long[1:] + "\n" + long + "\n" + long, api.ErrLong, 3},
		{strings.Repeat("\n", 65535) + "\"", api.ErrQuote, 65536},
	} {
		if l, e, at := Lines(c.text); e != c.e || at != c.at || len(l) != 0 {
			t.Errorf("Lines(%.40q) = %v, %d, %d, want none, %d, %d", c.text, l, e, at, c.e, c.at)
		}
	}
}

func TestLinesOfALongText(t *testing.T) { // P8.2
	line := strings.Repeat("x", 1023) + "\n"
	text := strings.Repeat(line, 64) // 65536 bytes
	l, e, at := Lines(text)
	if e != api.OK || at != 0 || len(l) != 64 || l[63].N != 64 || l[63].Words[0] != line[:1023] {
		t.Errorf("of %d bytes: %d lines, %d, %d", len(text), len(l), e, at)
	}
	if l, e, at := Lines(text[:65535] + "y"); e != api.OK || len(l) != 64 || l[63].Words[0] != line[:1023]+"y" {
		t.Errorf("of 65536 bytes with no line feed at the end: %d lines, %d, %d", len(l), e, at)
	}
	if l, e, at := Lines(strings.Repeat("\n", 65536)); e != api.OK || len(l) != 0 || at != 0 {
		t.Errorf("of 65536 line feeds: %d lines, %d, %d", len(l), e, at)
	}
	for _, s := range []string{text + "\n", text + "x", "\n" + text, "\"\n" + text, "\x00\n" + text, strings.Repeat("\n", 65537), strings.Repeat("x", 65537), strings.Repeat("a\n", 1<<20)} {
		if l, e, at := Lines(s); e != api.ErrLong || at != 0 || len(l) != 0 {
			t.Errorf("of %d bytes that begin %.10q: %d lines, %d, %d", len(s), s, len(l), e, at)
		}
	}
	if _, e, at := Lines(strings.Repeat("x", 65536)); e != api.ErrLong || at != 1 {
		t.Errorf("one line of 65536 bytes: %d, %d", e, at)
	}
}

func TestJoinQuotesWhatMustBe(t *testing.T) { // P8.3
	for _, c := range []struct {
		words []string
		want  string
	}{
		{nil, ``},
		{[]string{}, ``},
		{[]string{""}, `""`},
		{[]string{"", ""}, `"" ""`},
		{[]string{"a"}, `a`},
		{[]string{"a", "b", "c"}, `a b c`},
		{[]string{"", "a b", "c"}, `"" "a b" c`},
		{[]string{" "}, `" "`},
		{[]string{" a", "a ", "a  b"}, `" a" "a " "a  b"`},
		{[]string{"#"}, `"#"`},
		{[]string{"#a", "a#", "a#b"}, `"#a" a# a#b`},
		{[]string{`"`}, `"\""`},
		{[]string{`"a`, `a"`, `a"b`}, `"\"a" a" a"b`},
		{[]string{`""`}, `"\"\""`},
		{[]string{`\`, `\\`, `a\b`, `\"`, `\#`}, `\ \\ a\b \" \#`},
		{[]string{`a \`}, `"a \\"`},
		{[]string{`a\ b"c`}, `"a\\ b\"c"`},
		{[]string{`#\"`, `"\ `}, `"#\\\"" "\"\\ "`},
		{[]string{`"\\`}, `"\"\\\\"`},
		{[]string{"~!", "'a'", ";"}, `~! 'a' ;`},
	} {
		if got := Join(c.words...); got != c.want {
			t.Errorf("Join(%q) = %s, want %s", c.words, got, c.want)
		}
	}
}

func TestJoinOfManyWordsAndOthers(t *testing.T) { // P8.3: its line may be longer than one that Words takes; no bytes make it fail
	l := slices.Repeat([]string{"a", "b c"}, 10000)
	if got, want := Join(l...), strings.Repeat(` a "b c"`, 10000)[1:]; got != want {
		t.Errorf("of 20000 words: %d bytes, want %d", len(got), len(want))
	}
	for _, s := range strange() {
		Join(s, " "+s, s+s, `"`+s)
	}
}

func TestWordsThereAndBack(t *testing.T) { // P8.6
	for _, l := range [][]string{
		nil,
		{""},
		{"", "", ""},
		{"a", "b"},
		{"#", "##", "a#", "# a"},
		{`"`, `""`, `"a"`, `a"`, `a "b" c`},
		{`\`, `\\`, `a\`, ` \`, `\ `, ` \\`, `" \"`, `\"`, `#\`},
		{" ", "  ", " a ", "a b"},
		{strings.Repeat("x", 1024)},
		{strings.Repeat(" ", 1022)},
		{strings.Repeat(`"`, 511)},
	} {
		got, e := Words(Join(l...))
		if e != api.OK || !slices.Equal(got, l) {
			t.Errorf("Words(%s) = %q, %d, want %q", Join(l...), got, e, l)
		}
	}
}

// spoil changes a list and its spare room.
func spoil(l []string) {
	l = l[:cap(l)]
	for i := range l {
		l[i] = "spoilt"
	}
}

func TestWordsAreNewEachTime(t *testing.T) { // P8.1
	line, want := `a "b c" d`, []string{"a", "b c", "d"}
	one, _ := Words(line)
	two, _ := Words(line)
	spoil(one)
	if !slices.Equal(two, want) {
		t.Errorf("another answer has become %q", two)
	}
	if three, e := Words(line); e != api.OK || !slices.Equal(three, want) {
		t.Errorf("a later answer is %q, %d", three, e)
	}
}

func TestLinesAreNewEachTime(t *testing.T) { // P8.2
	text, want := "a b c\n\nd \"e f\"\ng", [][]string{{"a", "b", "c"}, {"d", "e f"}, {"g"}}
	for i := range want { // one line is spoilt, the others of its answer and another answer stay
		one, _, _ := Lines(text)
		two, _, _ := Lines(text)
		spoil(one[i].Words)
		for j := range want {
			if i != j && !slices.Equal(one[j].Words, want[j]) {
				t.Errorf("line %d is spoilt: line %d has become %q", i, j, one[j].Words)
			}
			if !slices.Equal(two[j].Words, want[j]) {
				t.Errorf("line %d is spoilt: line %d of another answer has become %q", i, j, two[j].Words)
			}
		}
		clear(one[:cap(one)])
		if three, e, _ := Lines(text); e != api.OK || len(three) != 3 || two[i].N != three[i].N || !slices.Equal(three[i].Words, want[i]) {
			t.Errorf("a later answer is %v, %d", three, e)
		}
	}
}

func TestJoinLeavesItsWords(t *testing.T) { // P8.3
	room := []string{"a", "b c", `"`, "", "spare", "room"}
	was := slices.Clone(room)
	line := Join(room[:4]...)
	if !slices.Equal(room, was) {
		t.Errorf("the list has become %q", room)
	}
	spoil(room)
	if line != `a "b c" "\"" ""` {
		t.Errorf("the answer has become %s", line)
	}
}

// within is whether a text lies in the memory of another.
func within(part, whole string) bool {
	at, from := uintptr(unsafe.Pointer(unsafe.StringData(part))), uintptr(unsafe.Pointer(unsafe.StringData(whole)))
	return part != "" && at >= from && at < from+uintptr(len(whole))
}

func TestWordsHoldNoTextInMemory(t *testing.T) { // P8.1 to P8.3
	text := strings.Repeat("one \"two three\" four\n", 3)
	l, _, _ := Lines(text)
	for _, line := range l {
		for _, word := range line.Words {
			if within(word, text) {
				t.Errorf("line %d: %q is a piece of the text", line.N, word)
			}
		}
	}
	if word := strings.Repeat("x", 40); within(Join(word), word) {
		t.Error("Join of one word is that word's memory")
	}
}
