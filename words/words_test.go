package words_test

import (
	"bytes"
	"math"
	"math/big"
	"math/rand"
	"slices"
	"strings"
	"testing"

	"drowse/api"
	"drowse/words"
)

// source gives the same numbers each time.
func source() *rand.Rand { return rand.New(rand.NewSource(2)) }

// --- W1: numbers ---

// numbers are the edges of int64, of fewer bits and of digits, and what lies beside them.
func numbers() []int64 {
	l := []int64{0, 7, math.MaxInt64, math.MaxInt64 - 1, math.MinInt64, math.MinInt64 + 1}
	for _, mid := range []int64{1 << 31, 1 << 32, 1 << 53, 1 << 62} {
		for d := int64(-2); d <= 2; d++ {
			l = append(l, mid+d, -mid+d)
		}
	}
	for ten := int64(1); ten <= math.MaxInt64/10; ten *= 10 {
		l = append(l, ten-1, ten, ten+1, 1-ten, -ten, -1-ten, 9*ten, -9*ten)
	}
	return append(l, math.MaxInt64/10*10, math.MinInt64/10*10)
}

func wantParse(t *testing.T, s string, n int64, e api.Errno) {
	t.Helper()
	gotN, gotE := words.Parse(s)
	if gotN != n || gotE != e {
		if len(s) > 60 {
			s = s[:60] + "..."
		}
		t.Errorf("Parse %q: %d, %d; want %d, %d", s, gotN, gotE, n, e)
	}
}

func TestIntExamples(t *testing.T) {
	for _, x := range []struct {
		n    int64
		text string
	}{
		{0, "0"}, {1, "1"}, {-1, "-1"}, {9, "9"}, {10, "10"}, {-10, "-10"}, {1234567890, "1234567890"},
		{math.MaxInt64, "9223372036854775807"}, {math.MinInt64, "-9223372036854775808"}, {math.MinInt64 + 1, "-9223372036854775807"},
	} {
		if got := words.Int(x.n); got != x.text {
			t.Errorf("Int %d: %q, want %q", x.n, got, x.text)
		}
	}
}

func TestIntIsDecimal(t *testing.T) {
	for _, n := range numbers() {
		if got, want := words.Int(n), big.NewInt(n).String(); got != want {
			t.Errorf("Int %d: %q", n, got)
		}
	}
}

func TestParseTableOfTheChapter(t *testing.T) {
	wantParse(t, "9223372036854775807", math.MaxInt64, api.OK)
	wantParse(t, "-9223372036854775808", math.MinInt64, api.OK)
	wantParse(t, "9223372036854775808", 0, api.ErrWordsRange)
	wantParse(t, "-0", 0, api.ErrWordsForm)
	wantParse(t, "00", 0, api.ErrWordsForm)
	wantParse(t, "", 0, api.ErrWordsForm)
}

func TestParseNumbers(t *testing.T) {
	wantParse(t, "0", 0, api.OK)
	wantParse(t, "10", 10, api.OK)
	wantParse(t, "-1", -1, api.OK)
	for _, n := range numbers() {
		wantParse(t, big.NewInt(n).String(), n, api.OK)
	}
}

func TestParseRange(t *testing.T) {
	most, least := big.NewInt(math.MaxInt64), big.NewInt(math.MinInt64)
	for d := int64(1); d <= 300; d++ {
		wantParse(t, new(big.Int).Add(most, big.NewInt(d)).String(), 0, api.ErrWordsRange)
		wantParse(t, new(big.Int).Sub(least, big.NewInt(d)).String(), 0, api.ErrWordsRange)
	}
	// Where 64 bits wrap round to a number that is in range: no more than its low bits are such a one.
	for bits := uint(63); bits <= 200; bits++ {
		for d := int64(0); d <= 3; d++ {
			n := new(big.Int).Lsh(big.NewInt(1), bits)
			n.Add(n, big.NewInt(d))
			wantParse(t, n.String(), 0, api.ErrWordsRange)
			if bits > 63 || d > 0 {
				wantParse(t, n.Neg(n).String(), 0, api.ErrWordsRange)
			}
		}
	}
	for digits := 20; digits <= 70; digits++ {
		for _, digit := range []string{"1", "5", "9"} {
			wantParse(t, strings.Repeat(digit, digits), 0, api.ErrWordsRange)
			wantParse(t, "-"+strings.Repeat(digit, digits), 0, api.ErrWordsRange)
			wantParse(t, digit+strings.Repeat("0", digits-1), 0, api.ErrWordsRange)
		}
	}
}

func TestParseVeryLong(t *testing.T) {
	const long = 1 << 20
	wantParse(t, strings.Repeat("8", long), 0, api.ErrWordsRange)
	wantParse(t, "-1"+strings.Repeat("0", long), 0, api.ErrWordsRange)
	// The form comes first, though the digits ahead of the fault are out of range.
	wantParse(t, strings.Repeat("8", long)+"a", 0, api.ErrWordsForm)
	wantParse(t, "-"+strings.Repeat("8", long)+"-", 0, api.ErrWordsForm)
	wantParse(t, strings.Repeat("0", long)+"1", 0, api.ErrWordsForm)
}

func TestParseWrongForm(t *testing.T) {
	for _, s := range []string{
		"", "-", "--", "--1", "-0", "-00", "00", "01", "007", "-07", "000000000000000000000000", "-01",
		"+1", "+0", "+", "+-1", "-+1", "1-", "1-1", "1+1", "0-", "0-1",
		" 1", "1 ", " ", "\t1", "1\n", "- 1", "1 2",
		"1a", "a1", "a", "x", "0x1", "0x", "0b1", "0o7", "1e3", "1E3", "1.0", "1.", ".1", "1_000", "_1", "1_",
		"inf", "NaN", "true", "1\x00", "\x00", "\x001", "٣", "1٣", "１", "−1", "\xff", "1\xff", "/", ":", "1/", "1:",
	} {
		wantParse(t, s, 0, api.ErrWordsForm)
	}
}

func TestParseEveryByte(t *testing.T) {
	for c := range 256 {
		b := string([]byte{byte(c)})
		digit := byte(c) >= '0' && byte(c) <= '9'
		value := int64(c - '0')
		for _, x := range []struct {
			s  string
			n  int64
			ok bool
		}{
			{b, value, digit},
			{"-" + b, -value, digit && c != '0'},
			{"1" + b, 10 + value, digit},
			{b + "1", 10*value + 1, digit && c != '0'},
			{"1" + b + "1", 101 + 10*value, digit},
			{"0" + b, 0, false},
			{"-0" + b, 0, false},
		} {
			switch {
			case x.ok:
				wantParse(t, x.s, x.n, api.OK)
			case x.s == "-1":
				wantParse(t, x.s, -1, api.OK)
			default:
				wantParse(t, x.s, 0, api.ErrWordsForm)
			}
		}
	}
}

// numberForm is the form as the chapter says it, read anew.
func numberForm(s string) bool {
	s, _ = strings.CutPrefix(s, "-")
	if strings.Trim(s, "0123456789") != "" {
		return false
	}
	return s != "" && s[0] != '0'
}

// Every text of up to six of these bytes, so that no order of them is left out.
func TestParseAllShortTexts(t *testing.T) {
	var all func(s string)
	all = func(s string) {
		switch {
		case s == "0":
			wantParse(t, s, 0, api.OK)
		case numberForm(s):
			n, _ := new(big.Int).SetString(s, 10)
			wantParse(t, s, n.Int64(), api.OK)
		default:
			wantParse(t, s, 0, api.ErrWordsForm)
		}
		if len(s) < 6 {
			for _, c := range "-+019_a" {
				all(s + string(c))
			}
		}
	}
	all("")
}

// --- P2.2 (back): numbers ---

func TestParseOfIntIsTheNumber(t *testing.T) {
	for _, n := range numbers() {
		wantParse(t, words.Int(n), n, api.OK)
	}
	r := source()
	for range 20000 {
		n := int64(r.Uint64()) >> r.Intn(64)
		wantParse(t, words.Int(n), n, api.OK)
	}
}

// --- W2: texts ---

func wantUnquote(t *testing.T, s, text string, took int, e api.Errno) {
	t.Helper()
	gotText, gotTook, gotE := words.Unquote(s)
	if gotText != text || gotTook != took || gotE != e {
		t.Errorf("Unquote %q: %q, %d, %d; want %q, %d, %d", s, gotText, gotTook, gotE, text, took, e)
	}
}

func wantNoText(t *testing.T, s string) {
	t.Helper()
	wantUnquote(t, s, "", 0, api.ErrWordsForm)
}

func TestQuoteExamples(t *testing.T) {
	for _, x := range []struct{ s, written string }{
		{"a\n\"", `"a\n\""`},
		{"", `""`},
		{"a", `"a"`},
		{`\`, `"\\"`},
		{`"`, `"\""`},
		{"\n", `"\n"`},
		{"\t", `"\t"`},
		{`\n`, `"\\n"`},
		{`\\""`, `"\\\\\"\""`},
		{"\t\n\t\n", `"\t\n\t\n"`},
		{"'`", "\"'`\""},
		{"\r\x00\x7f", "\"\r\x00\x7f\""},
		{"é世\u2028", "\"é世\u2028\""},
		{"\xff\xc3\x28", "\"\xff\xc3\x28\""},
	} {
		if got := words.Quote(x.s); got != x.written {
			t.Errorf("Quote %q: %q, want %q", x.s, got, x.written)
		}
	}
}

// written is a byte within a text as it is written.
func written(c byte) string {
	switch c {
	case '\\':
		return `\\`
	case '"':
		return `\"`
	case 10:
		return `\n`
	case 9:
		return `\t`
	}
	return string([]byte{c})
}

func TestQuoteEveryByte(t *testing.T) {
	for c := range 256 {
		b := string([]byte{byte(c)})
		w := written(byte(c))
		for _, x := range []struct{ s, want string }{
			{b, `"` + w + `"`},
			{b + b, `"` + w + w + `"`},
			{"x" + b + "y", `"x` + w + `y"`},
		} {
			if got := words.Quote(x.s); got != x.want {
				t.Errorf("Quote %q: %q, want %q", x.s, got, x.want)
			}
		}
	}
}

func TestUnquoteTableOfTheChapter(t *testing.T) {
	wantUnquote(t, `"a\tb"c`, "a\tb", 6, api.OK)
	wantNoText(t, `"a`)
	wantNoText(t, `"\x"`)
	wantNoText(t, `a`)
}

func TestUnquoteTexts(t *testing.T) {
	for _, x := range []struct {
		s, text string
		took    int
	}{
		{`""`, "", 2},
		{`"""`, "", 2},
		{`"" "b"`, "", 2},
		{`"a"`, "a", 3},
		{`"a"b"`, "a", 3},
		{`"\\"`, `\`, 4},
		{`"\\""`, `\`, 4},
		{`"\""`, `"`, 4},
		{`"\"\""`, `""`, 6},
		{`"\\\""x`, `\"`, 6},
		{`"\\n"`, `\n`, 5},
		{`"\n"`, "\n", 4},
		{`"\t"`, "\t", 4},
		{"\"\t\"", "\t", 3},
		{"\"a\tb\"\n", "a\tb", 5},
		{"\"a\"\n", "a", 3},
		{"\"a\"\\", "a", 3},
		{"\"\r\x00\x0b\"", "\r\x00\x0b", 5},
		{"\"é世\"", "é世", 7},
		{"\"\xff\xfe\"", "\xff\xfe", 4},
		{"\"'`\"", "'`", 4},
	} {
		wantUnquote(t, x.s, x.text, x.took, api.OK)
	}
}

func TestUnquoteWrong(t *testing.T) {
	for _, s := range []string{
		// No " at the beginning.
		"", "a", ` "a"`, `'a'`, "`a`", `\"a"`, "\n\"a\"", "\t\"a\"", "\x00", "\xff", `a"b"`, `\`,
		// The end comes too early.
		`"`, `"a`, `"a\"`, `"\"`, `"\`, `"a\`, `"\\`, `"\\\`, `"\\\"`, `"a\n`, `"a\nb\t`, "\"\t",
		// A byte 10 within.
		"\"\n\"", "\"a\n\"", "\"\na\"", "\"\n", "\"a\\\n\"", "\"a\\\\\n\"", "\"a\\\"\n\"", "\"a\\n\n\"", "\"\r\n\"",
		// A \ before another byte.
		`"\x"`, `"\a"`, `"\r"`, `"\0"`, `"\'"`, "\"\\`\"", `"\N"`, `"\T"`, `"\ "`, `"\/"`, `"\x41"`, `"\u0041"`, `"a\n\x"`, `"\x`, "\"\\\t\"", "\"\\\x00\"", "\"\\\xff\"", `"\é"`,
	} {
		wantNoText(t, s)
	}
}

// Where several things are wrong one answer tells them all, whichever stands first.
func TestUnquoteWrongTwice(t *testing.T) {
	for _, s := range []string{"\"\\x\n", "\"\n\\x\"", "a\n\\x", `"\x\`, "\"\\\n", "\"\n"} {
		wantNoText(t, s)
	}
	// What stands behind the text is not looked at.
	wantUnquote(t, "\"a\"\\x\n\"", "a", 3, api.OK)
	wantUnquote(t, "\"\"\n", "", 2, api.OK)
}

func TestUnquoteEveryByteAsItIs(t *testing.T) {
	for c := range 256 {
		b := string([]byte{byte(c)})
		switch c {
		case '\n':
			wantNoText(t, `"`+b+`"`)
			wantNoText(t, `"x`+b+`y"`)
		case '"':
			wantUnquote(t, `"`+b+`"`, "", 2, api.OK)
			wantUnquote(t, `"x`+b+`y"`, "x", 3, api.OK)
		case '\\':
			wantNoText(t, `"`+b+`"`)
			wantNoText(t, `"x`+b+`y"`)
		default:
			wantUnquote(t, `"`+b+`"`, b, 3, api.OK)
			wantUnquote(t, `"x`+b+`y"`, "x"+b+"y", 5, api.OK)
		}
		if c != '"' {
			wantNoText(t, b+`a"`)
		}
	}
}

func TestUnquoteEveryByteBehindBackslash(t *testing.T) {
	meant := map[int]string{'\\': `\`, '"': `"`, 'n': "\n", 't': "\t"}
	for c := range 256 {
		s := `"x\` + string([]byte{byte(c)}) + `y"z`
		if m, ok := meant[c]; ok {
			wantUnquote(t, s, "x"+m+"y", 6, api.OK)
		} else {
			wantNoText(t, s)
		}
	}
}

func TestUnquoteEveryBeginningOfAText(t *testing.T) {
	whole := `"a\\b\"c\nd\te` + "\t" + `f"`
	for n := range len(whole) {
		wantNoText(t, whole[:n])
	}
	wantUnquote(t, whole, "a\\b\"c\nd\te\tf", len(whole), api.OK)
}

// --- P2.2 (back): texts ---

// followers are what may stand behind a text.
func followers() []string {
	return []string{"", `"`, `""`, `\`, `\"`, "\n", "\n\"", "a", " ", "\x00", "\xff", `n"`, `"a"`, `\n`}
}

func wantBack(t *testing.T, s string) {
	t.Helper()
	q := words.Quote(s)
	if strings.Contains(q, "\n") {
		t.Errorf("Quote %q has a byte 10: %q", s, q)
	}
	for _, f := range followers() {
		wantUnquote(t, q+f, s, len(q), api.OK)
	}
}

func TestUnquoteOfQuoteEveryByte(t *testing.T) {
	var all bytes.Buffer
	for c := range 256 {
		wantBack(t, string([]byte{byte(c)}))
		all.WriteByte(byte(c))
	}
	wantBack(t, "")
	wantBack(t, all.String())
}

func TestUnquoteOfQuoteEveryPair(t *testing.T) {
	for a := range 256 {
		for b := range 256 {
			s := string([]byte{byte(a), byte(b)})
			q := words.Quote(s)
			wantUnquote(t, q+`"`, s, len(q), api.OK)
			if want := `"` + written(byte(a)) + written(byte(b)) + `"`; q != want {
				t.Errorf("Quote %q: %q, want %q", s, q, want)
			}
		}
	}
}

func TestUnquoteOfQuoteMixed(t *testing.T) {
	r := source()
	const often = "\\\"\n\tnt"
	for range 2000 {
		s := make([]byte, r.Intn(20))
		for i := range s {
			s[i] = byte(r.Intn(256))
			if r.Intn(2) == 0 {
				s[i] = often[r.Intn(len(often))]
			}
		}
		wantBack(t, string(s))
	}
}

func TestUnquoteOfQuoteLong(t *testing.T) {
	for _, piece := range []string{"a", `\`, `"`, "\n", "\t", "\xff\\"} {
		s := strings.Repeat(piece, 1<<16)
		q := words.Quote(s)
		got, took, e := words.Unquote(q + "\n")
		if got != s || took != len(q) || e != api.OK {
			t.Errorf("%q, many times: %d bytes of %d, took %d, %d", piece, len(got), len(s), took, e)
		}
	}
}

// --- W3: names and words ---

// theWords are the language's words in the order of the chapter.
const theWords = "break case chan continue default else for func go if range return select switch var " +
	"int bool Mutex WaitGroup true false nil make close len cap println yield"

func wantName(t *testing.T, s string, name, word bool) {
	t.Helper()
	if gotName, gotWord := words.Name(s), words.Word(s); gotName != name || gotWord != word {
		t.Errorf("%q: name %v, word %v; want %v, %v", s, gotName, gotWord, name, word)
	}
}

func TestNameTableOfTheChapter(t *testing.T) {
	wantName(t, "x1", true, false)
	wantName(t, "1x", false, false)
	wantName(t, "_", true, false)
	wantName(t, "for", false, true)
	wantName(t, "lock", true, false)
}

func TestNames(t *testing.T) {
	for _, s := range []string{"a", "A", "z", "Z", "_", "__", "_1", "a_b", "a1b2", "Z9", "main", "x0", "_for", "for_", "string", "struct", "type", "import", "const", "defer", "goto", "package", "Lock", "Unlock", "Add", "Done", "Wait", "print", "panic", "iota", "append"} {
		wantName(t, s, true, false)
	}
	for _, s := range []string{"", "1", "0a", "9", "-a", "a-b", "a.b", "a b", " a", "a ", "a\n", "a\x00", "é", "aé", "世", "\xff", "a\xff", "a\"", "\"a\"", "a+", "+", "@", "a$", "for ", " for"} {
		wantName(t, s, false, false)
	}
}

func TestNameLengths(t *testing.T) {
	for _, first := range []string{"a", "Z", "_"} {
		for n := 1; n <= 29; n++ {
			wantName(t, first+strings.Repeat("b", n-1), true, false)
		}
		wantName(t, first+strings.Repeat("b", 29), true, false)
		wantName(t, first+strings.Repeat("9", 29), true, false)
		wantName(t, first+strings.Repeat("b", 30), false, false)
		wantName(t, first+strings.Repeat("9", 30), false, false)
		wantName(t, first+strings.Repeat("b", 1<<16), false, false)
	}
	// A byte that may not stand there is found at the last place too.
	wantName(t, strings.Repeat("b", 29)+"-", false, false)
	wantName(t, "1"+strings.Repeat("b", 29), false, false)
}

func TestNameEveryByte(t *testing.T) {
	const letters = "ABCDEFGHIJKLMNOPQRSTUVWXYZabcdefghijklmnopqrstuvwxyz_"
	const digits = "0123456789"
	for c := range 256 {
		b := string([]byte{byte(c)})
		letter := strings.Contains(letters, b)
		either := letter || strings.Contains(digits, b)
		wantName(t, b, letter, false)
		wantName(t, b+"q", letter, false)
		wantName(t, "q"+b, either, false)
		wantName(t, "q"+b+"q", either, false)
	}
}

func TestEachWord(t *testing.T) {
	for _, w := range strings.Fields(theWords) {
		wantName(t, w, false, true)
		wantName(t, w+"_", true, false)
		wantName(t, w+"1", true, false)
		wantName(t, "_"+w, true, false)
		wantName(t, w+" ", false, false)
		wantName(t, w+w, true, false)
		// One byte less or in the other case is another text, and no word has two such forms.
		for _, other := range []string{w[:len(w)-1], w[1:], strings.ToUpper(w), strings.ToLower(w), strings.ToUpper(w[:1]) + w[1:]} {
			if word := slices.Contains(strings.Fields(theWords), other); !word {
				wantName(t, other, true, false)
			}
		}
	}
}

func TestWordOfWhatIsNone(t *testing.T) {
	for _, s := range []string{"", " ", "mutex", "MUTEX", "waitgroup", "Waitgroup", "waitGroup", "For", "TRUE", "Nil", "fo", "forr", "for\n", "for\x00", "for,", "break case", "defer", "string", "_", "int64"} {
		if words.Word(s) {
			t.Errorf("Word %q", s)
		}
	}
}

func TestWords(t *testing.T) {
	want := strings.Fields(theWords)
	slices.Sort(want)
	got := words.Words()
	if !slices.Equal(got, want) {
		t.Fatalf("Words: %q, want %q", got, want)
	}
	for i := 1; i < len(got); i++ {
		if got[i-1] >= got[i] {
			t.Errorf("%q stands ahead of %q", got[i-1], got[i])
		}
	}
}

// wipe writes over all memory of a list, behind its length too.
func wipe(l []string) {
	l = l[:cap(l)]
	for i := range l {
		l[i] = "gone"
	}
}

func TestWordsAreNewMemory(t *testing.T) {
	want := strings.Fields(theWords)
	slices.Sort(want)
	first, second := words.Words(), words.Words()
	wipe(first)
	if !slices.Equal(second, want) {
		t.Errorf("an answer changed with an earlier one: %q", second)
	}
	wipe(second)
	_ = append(second[:0], "x", "y")
	if third := words.Words(); !slices.Equal(third, want) {
		t.Errorf("a later answer is changed: %q", third)
	}
	wantName(t, "gone", true, false)
	wantName(t, "break", false, true)
	wantName(t, "x", true, false)
}

// --- P2: the same answer each time, whatever was asked between ---

func TestSameAnswersAgain(t *testing.T) {
	ask := func() []string {
		n, e := words.Parse("-12")
		_, bad := words.Parse("1x")
		text, took, _ := words.Unquote(`"a\n"b`)
		return []string{words.Int(n), e.Error(), bad.Error(), text, words.Int(int64(took)), words.Quote("a\n"), strings.Join(words.Words(), " ")}
	}
	first := ask()
	for range 100 {
		if again := ask(); !slices.Equal(first, again) {
			t.Fatalf("%q, then %q", first, again)
		}
	}
}
