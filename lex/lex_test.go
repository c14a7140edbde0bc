package lex_test

import (
	"math"
	"math/rand"
	"regexp"
	"slices"
	"strconv"
	"strings"
	"testing"

	"drowse/api"
	"drowse/lex"
	"drowse/words"
)

// source gives the same numbers each time.
func source() *rand.Rand { return rand.New(rand.NewSource(3)) }

func name(text string, at, line int) api.Token {
	return api.Token{Kind: api.TokenName, Text: text, At: at, Line: line}
}

func word(text string, at, line int) api.Token {
	return api.Token{Kind: api.TokenWord, Text: text, At: at, Line: line}
}

func number(n int64, at, line int) api.Token {
	return api.Token{Kind: api.TokenInt, N: n, At: at, Line: line}
}

func text(s string, at, line int) api.Token {
	return api.Token{Kind: api.TokenText, Text: s, At: at, Line: line}
}

func sign(text string, at, line int) api.Token {
	return api.Token{Kind: api.TokenSign, Text: text, At: at, Line: line}
}

// semi is a semicolon that is written.
func semi(at, line int) api.Token {
	return api.Token{Kind: api.TokenSemi, Text: ";", At: at, Line: line}
}

// put is a semicolon that is put in.
func put(at, line int) api.Token {
	return api.Token{Kind: api.TokenSemi, Text: "\n", At: at, Line: line}
}

func end(at, line int) api.Token {
	return api.Token{Kind: api.TokenEnd, At: at, Line: line}
}

func short(s string) string {
	if len(s) > 80 {
		return strconv.Quote(s[:80]) + "..."
	}
	return strconv.Quote(s)
}

func wantTokens(t *testing.T, src string, want ...api.Token) {
	t.Helper()
	got, err := lex.Scan(src)
	if err != nil || !slices.Equal(got, want) {
		if len(got) > 20 {
			got = got[:20]
		}
		if len(want) > 20 {
			want = want[:20]
		}
		t.Errorf("Scan %s: %+v, %v; want %+v", short(src), got, err, want)
	}
}

func wantFault(t *testing.T, src string, at int, e api.Errno) {
	t.Helper()
	got, err := lex.Scan(src)
	f, ok := err.(*api.Fault)
	if !ok || f == nil || *f != (api.Fault{At: at, Err: e}) || len(got) != 0 {
		t.Errorf("Scan %s: %d tokens, %v; want error %d at %d", short(src), len(got), err, e, at)
	}
}

// --- L1: tokens ---

func TestScanTableOfTheChapter(t *testing.T) {
	wantTokens(t, "x := 1 // a\n", name("x", 0, 1), sign(":=", 2, 1), number(1, 5, 1), put(11, 1), end(12, 2))
	wantTokens(t, "a<-b", name("a", 0, 1), sign("<-", 1, 1), name("b", 3, 1), put(4, 1), end(4, 1))
	wantTokens(t, "{\n}", sign("{", 0, 1), sign("}", 2, 2), put(3, 2), end(3, 2))
	wantFault(t, "01", 0, api.ErrLexNumber)
	wantFault(t, "1a", 0, api.ErrLexNumber)
	wantFault(t, "9223372036854775808", 0, api.ErrLexNumber)
	wantFault(t, "#", 0, api.ErrLexByte)
	wantFault(t, "\"a", 0, api.ErrLexText)
	wantFault(t, "&", 0, api.ErrLexByte)
}

func TestScanWithoutTokens(t *testing.T) {
	wantTokens(t, "", end(0, 1))
	wantTokens(t, " \t\r", end(3, 1))
	wantTokens(t, "\n", end(1, 2))
	wantTokens(t, "\n\n \n", end(4, 4))
	wantTokens(t, "//", end(2, 1))
	wantTokens(t, "//\n", end(3, 2))
	wantTokens(t, "// x y \"#", end(9, 1))
	wantTokens(t, "// x\n// y\n", end(10, 3))
	wantTokens(t, "///#\r\n\t//", end(9, 2))
}

func TestScanNamesAndWords(t *testing.T) {
	wantTokens(t, "x", name("x", 0, 1), put(1, 1), end(1, 1))
	wantTokens(t, "_", name("_", 0, 1), put(1, 1), end(1, 1))
	wantTokens(t, "_1aZ9z", name("_1aZ9z", 0, 1), put(6, 1), end(6, 1))
	wantTokens(t, "a b", name("a", 0, 1), name("b", 2, 1), put(3, 1), end(3, 1))
	// As many bytes as it can have: a word with more behind it is a name.
	wantTokens(t, "form for for1 _for", name("form", 0, 1), word("for", 5, 1), name("for1", 9, 1), name("_for", 14, 1), put(18, 1), end(18, 1))
	wantTokens(t, "mutex Mutex", name("mutex", 0, 1), word("Mutex", 6, 1), put(11, 1), end(11, 1))
	wantTokens(t, "a.b", name("a", 0, 1), sign(".", 1, 1), name("b", 2, 1), put(3, 1), end(3, 1))
}

func TestScanEachWord(t *testing.T) {
	for _, w := range words.Words() {
		n := len(w)
		wantTokens(t, " "+w+";", word(w, 1, 1), semi(n+1, 1), end(n+2, 1))
		wantTokens(t, w+"_;", name(w+"_", 0, 1), semi(n+1, 1), end(n+2, 1))
		wantTokens(t, w+"0;", name(w+"0", 0, 1), semi(n+1, 1), end(n+2, 1))
	}
}

func TestScanNameLengths(t *testing.T) {
	for _, first := range []string{"a", "Z", "_", "for"} {
		for _, more := range []string{"b", "9", "_"} {
			s := first + strings.Repeat(more, 30)
			wantTokens(t, s[:29], name(s[:29], 0, 1), put(29, 1), end(29, 1))
			wantTokens(t, s[:30], name(s[:30], 0, 1), put(30, 1), end(30, 1))
			wantFault(t, s[:31], 0, api.ErrLexName)
			wantFault(t, "x\n "+s[:31]+" #", 3, api.ErrLexName)
			wantTokens(t, s[:30]+"\n", name(s[:30], 0, 1), put(30, 1), end(31, 2))
		}
	}
	wantFault(t, strings.Repeat("a", api.MaxSource), 0, api.ErrLexName)
}

func TestScanNumbers(t *testing.T) {
	for _, x := range []struct {
		s string
		n int64
	}{
		{"0", 0}, {"1", 1}, {"9", 9}, {"10", 10}, {"100", 100}, {"1234567890", 1234567890},
		{"9223372036854775806", math.MaxInt64 - 1}, {"9223372036854775807", math.MaxInt64},
	} {
		n := len(x.s)
		wantTokens(t, x.s, number(x.n, 0, 1), put(n, 1), end(n, 1))
		wantTokens(t, " "+x.s+";", number(x.n, 1, 1), semi(n+1, 1), end(n+2, 1))
		wantTokens(t, "-"+x.s, sign("-", 0, 1), number(x.n, 1, 1), put(n+1, 1), end(n+1, 1))
	}
	wantTokens(t, "1 2", number(1, 0, 1), number(2, 2, 1), put(3, 1), end(3, 1))
	wantTokens(t, "1.5", number(1, 0, 1), sign(".", 1, 1), number(5, 2, 1), put(3, 1), end(3, 1))
	wantTokens(t, `1"a"2`, number(1, 0, 1), text("a", 1, 1), number(2, 4, 1), put(5, 1), end(5, 1))
	wantTokens(t, "-0", sign("-", 0, 1), number(0, 1, 1), put(2, 1), end(2, 1))
}

func TestScanWrongNumbers(t *testing.T) {
	for _, s := range []string{
		"00", "01", "007", "0x1", "0a", "1a", "1_", "1_000", "9Z", "1e3", "0_", "1for", "12345z",
		"9223372036854775808", "9223372036854775809", "18446744073709551615", "18446744073709551616", "18446744073709551617",
		"09223372036854775807", "99999999999999999999", "9223372036854775807a",
		strings.Repeat("1", 100), strings.Repeat("0", 100), strings.Repeat("7", api.MaxSource-10),
	} {
		wantFault(t, s, 0, api.ErrLexNumber)
		wantFault(t, "x\n-"+s+" #", 3, api.ErrLexNumber)
	}
	// A byte that is no letter, though it is one elsewhere, is a token of its own.
	wantFault(t, "1\xc3\xa9", 1, api.ErrLexByte)
	wantFault(t, "1#", 1, api.ErrLexByte)
}

func TestScanTexts(t *testing.T) {
	for _, x := range []struct{ s, meant string }{
		{`""`, ""}, {`"a"`, "a"}, {`"a b"`, "a b"}, {`"//"`, "//"}, {`";"`, ";"}, {`"a\n"`, "a\n"}, {`"\t\\\""`, "\t\\\""},
		{"\"\t\"", "\t"}, {"\"\r\x00\xff\"", "\r\x00\xff"}, {`"for 1 #"`, "for 1 #"}, {"\"é世\"", "é世"},
	} {
		n := len(x.s)
		wantTokens(t, x.s, text(x.meant, 0, 1), put(n, 1), end(n, 1))
		wantTokens(t, "\n "+x.s+"x", text(x.meant, 2, 2), name("x", n+2, 2), put(n+3, 2), end(n+3, 2))
		wantTokens(t, x.s+x.s, text(x.meant, 0, 1), text(x.meant, n, 1), put(2*n, 1), end(2*n, 1))
	}
}

func TestScanWrongTexts(t *testing.T) {
	for _, s := range []string{`"`, `"a`, `"a\"`, `"\`, `"\x"`, `"\r"`, "\"\n\"", "\"a\nb\"", "\"a\\\n\"", `"a\'b"`, `"// x`, "\"\\\xff\""} {
		wantFault(t, s, 0, api.ErrLexText)
		wantFault(t, "a\n;"+s, 3, api.ErrLexText)
	}
	// The second " of the first text ends it, so that the third one begins another.
	wantFault(t, `"a""`, 3, api.ErrLexText)
}

// theSigns are the signs in the order of the chapter.
const theSigns = ":= == != <= >= && || <- ++ -- + - * / % ( ) { } , : = < > ! . ;"

// signToken is a sign's token at a place on the first line.
func signToken(s string, at int) api.Token {
	if s == ";" {
		return semi(at, 1)
	}
	return sign(s, at, 1)
}

func TestScanEachSign(t *testing.T) {
	for _, s := range strings.Fields(theSigns) {
		n := len(s)
		wantTokens(t, s+" x", signToken(s, 0), name("x", n+1, 1), put(n+2, 1), end(n+2, 1))
		wantTokens(t, "x"+s+"x", name("x", 0, 1), signToken(s, 1), name("x", n+1, 1), put(n+2, 1), end(n+2, 1))
		wantTokens(t, "1"+s+"1", number(1, 0, 1), signToken(s, 1), number(1, n+1, 1), put(n+2, 1), end(n+2, 1))
		wantTokens(t, `""`+s+`""`, text("", 0, 1), signToken(s, 2), text("", n+2, 1), put(n+4, 1), end(n+4, 1))
	}
}

// Of two signs side by side the longest one that fits is taken first; / and / are a comment.
func TestScanEachPairOfSigns(t *testing.T) {
	all := strings.Fields(theSigns)
	for _, a := range all {
		for _, b := range all {
			src := a + b
			var want []api.Token
			bad := -1
			for at := 0; at < len(src) && bad < 0; {
				if strings.HasPrefix(src[at:], "//") {
					break
				}
				switch {
				case at+2 <= len(src) && slices.Contains(all, src[at:at+2]):
					want = append(want, sign(src[at:at+2], at, 1))
					at += 2
				case slices.Contains(all, src[at:at+1]):
					want = append(want, signToken(src[at:at+1], at))
					at++
				default:
					bad = at
				}
			}
			if bad >= 0 {
				wantFault(t, src+" x", bad, api.ErrLexByte)
				continue
			}
			if !strings.Contains(src, "//") {
				want = append(want, name("x", len(src)+1, 1), put(len(src)+2, 1))
			}
			wantTokens(t, src+" x", append(want, end(len(src)+2, 1))...)
		}
	}
}

func TestScanSignsSideBySide(t *testing.T) {
	wantTokens(t, "a---b", name("a", 0, 1), sign("--", 1, 1), sign("-", 3, 1), name("b", 4, 1), put(5, 1), end(5, 1))
	wantTokens(t, "a<--b", name("a", 0, 1), sign("<-", 1, 1), sign("-", 3, 1), name("b", 4, 1), put(5, 1), end(5, 1))
	wantTokens(t, "<<-", sign("<", 0, 1), sign("<-", 1, 1), end(3, 1))
	wantTokens(t, "<==", sign("<=", 0, 1), sign("=", 2, 1), end(3, 1))
	wantTokens(t, "::==", sign(":", 0, 1), sign(":=", 1, 1), sign("=", 3, 1), end(4, 1))
	wantTokens(t, ": =", sign(":", 0, 1), sign("=", 2, 1), end(3, 1))
	wantTokens(t, "< -", sign("<", 0, 1), sign("-", 2, 1), end(3, 1))
	wantTokens(t, "!!=", sign("!", 0, 1), sign("!=", 1, 1), end(3, 1))
	wantTokens(t, "<-<-c", sign("<-", 0, 1), sign("<-", 2, 1), name("c", 4, 1), put(5, 1), end(5, 1))
	wantTokens(t, "/ /", sign("/", 0, 1), sign("/", 2, 1), end(3, 1))
	wantTokens(t, "/*//*/", sign("/", 0, 1), sign("*", 1, 1), end(6, 1))
	wantFault(t, "&&&", 2, api.ErrLexByte)
	wantFault(t, "|||", 2, api.ErrLexByte)
	wantFault(t, "& &", 0, api.ErrLexByte)
	wantFault(t, "a | b", 2, api.ErrLexByte)
	wantFault(t, "a &= b", 2, api.ErrLexByte)
	wantFault(t, "a[1]", 1, api.ErrLexByte)
}

func TestScanEveryByte(t *testing.T) {
	const letters = "ABCDEFGHIJKLMNOPQRSTUVWXYZabcdefghijklmnopqrstuvwxyz_"
	const digits = "0123456789"
	const signs = "+-*/%(){},:=<>!.;"
	for c := range 256 {
		b := string([]byte{byte(c)})
		switch {
		case strings.Contains(letters, b):
			wantTokens(t, b, name(b, 0, 1), put(1, 1), end(1, 1))
			wantTokens(t, "x"+b+"x;", name("x"+b+"x", 0, 1), semi(3, 1), end(4, 1))
			wantFault(t, "1"+b, 0, api.ErrLexNumber)
		case strings.Contains(digits, b):
			wantTokens(t, b, number(int64(c-'0'), 0, 1), put(1, 1), end(1, 1))
			wantTokens(t, "x"+b+"x;", name("x"+b+"x", 0, 1), semi(3, 1), end(4, 1))
			wantTokens(t, "1"+b+";", number(int64(10+c-'0'), 0, 1), semi(2, 1), end(3, 1))
		case strings.Contains(signs, b):
			wantTokens(t, b+";", signToken(b, 0), semi(1, 1), end(2, 1))
			wantTokens(t, "x"+b+"x;", name("x", 0, 1), signToken(b, 1), name("x", 2, 1), semi(3, 1), end(4, 1))
		case c == ' ' || c == '\t' || c == '\r':
			wantTokens(t, b, end(1, 1))
			wantTokens(t, "x"+b+"x;", name("x", 0, 1), name("x", 2, 1), semi(3, 1), end(4, 1))
		case c == '\n':
			wantTokens(t, b, end(1, 2))
			wantTokens(t, "x"+b+"x;", name("x", 0, 1), put(1, 1), name("x", 2, 2), semi(3, 2), end(4, 2))
		case c == '"':
			wantFault(t, b, 0, api.ErrLexText)
			wantFault(t, "x"+b+"x;", 1, api.ErrLexText)
		default:
			wantFault(t, b, 0, api.ErrLexByte)
			wantFault(t, "x"+b+"x;", 1, api.ErrLexByte)
			wantFault(t, "1"+b, 1, api.ErrLexByte)
			wantFault(t, "<\n"+b, 2, api.ErrLexByte)
		}
		// Within a comment each byte counts for nothing, but that 10 ends it.
		if c != '\n' {
			wantTokens(t, "//"+b+"\nx;", name("x", 4, 2), semi(5, 2), end(6, 2))
		}
	}
}

func TestScanLong(t *testing.T) {
	wantTokens(t, strings.Repeat(" ", api.MaxSource), end(20000, 1))
	wantTokens(t, strings.Repeat("\n", api.MaxSource), end(20000, 20001))
	wantTokens(t, strings.Repeat(" ", api.MaxSource-1)+"x", name("x", 19999, 1), put(20000, 1), end(20000, 1))
	wantTokens(t, "//"+strings.Repeat("#", api.MaxSource-2), end(20000, 1))
	quoted := `"` + strings.Repeat("a", api.MaxSource-2) + `"`
	wantTokens(t, quoted, text(quoted[1:19999], 0, 1), put(20000, 1), end(20000, 1))
	var want []api.Token
	for i := range api.MaxSource / 2 {
		want = append(want, name("x", 2*i, i+1), put(2*i+1, i+1))
	}
	wantTokens(t, strings.Repeat("x\n", api.MaxSource/2), append(want, end(20000, 10001))...)

	wantFault(t, strings.Repeat(" ", api.MaxSource+1), 0, api.ErrLexLong)
	wantFault(t, strings.Repeat("x", api.MaxSource+1), 0, api.ErrLexLong)
	wantFault(t, strings.Repeat("x\n", api.MaxSource/2)+"x", 0, api.ErrLexLong)
	wantFault(t, quoted+" ", 0, api.ErrLexLong)
	wantFault(t, strings.Repeat("\x00", 1<<20), 0, api.ErrLexLong)
	// What is too long is told ahead of each other fault.
	wantFault(t, "#"+strings.Repeat(" ", api.MaxSource), 0, api.ErrLexLong)
	wantFault(t, "#"+strings.Repeat(" ", api.MaxSource-1), 0, api.ErrLexByte)
	wantFault(t, strings.Repeat(" ", api.MaxSource-1)+"#", 19999, api.ErrLexByte)
}

// The first token in error is told, whatever stands behind it.
func TestScanTwoFaults(t *testing.T) {
	faults := []struct {
		s string
		e api.Errno
	}{
		{"#", api.ErrLexByte}, {"&", api.ErrLexByte}, {"01", api.ErrLexNumber}, {"1a", api.ErrLexNumber},
		{"9223372036854775808", api.ErrLexNumber}, {`"\x"`, api.ErrLexText}, {"\"a\n", api.ErrLexText},
		{strings.Repeat("a", 31), api.ErrLexName}, {"\x00", api.ErrLexByte},
	}
	for _, a := range faults {
		for _, b := range faults {
			wantFault(t, a.s+" "+b.s, 0, a.e)
			wantFault(t, "x ; "+a.s+"\n"+b.s, 4, a.e)
			wantFault(t, "{ \"\"\n"+a.s+" // "+b.s, 5, a.e)
		}
		wantTokens(t, "x; // "+strings.ReplaceAll(a.s, "\n", ""), name("x", 0, 1), semi(1, 1), end(6+len(strings.ReplaceAll(a.s, "\n", "")), 1))
	}
}

// --- L1: semicolons that are put in ---

// last is a token, as it is written, and whether a line that ends with it ends with a semicolon.
type last struct {
	s    string
	tok  api.Token
	ends bool
}

// lastTokens are such of each kind: all words and signs, and some of the others.
func lastTokens() []last {
	l := []last{
		{"x", name("x", 0, 0), true}, {"_", name("_", 0, 0), true}, {"fallthrough", name("fallthrough", 0, 0), true}, {"b2", name("b2", 0, 0), true},
		{"0", number(0, 0, 0), true}, {"42", number(42, 0, 0), true},
		{`""`, text("", 0, 0), true}, {`"{"`, text("{", 0, 0), true}, {`";"`, text(";", 0, 0), true},
		{";", semi(0, 0), false},
	}
	ending := strings.Fields("break continue return int bool Mutex WaitGroup true false nil ) } ++ --")
	for _, w := range words.Words() {
		l = append(l, last{w, word(w, 0, 0), slices.Contains(ending, w)})
	}
	for _, s := range strings.Fields(theSigns) {
		if s != ";" {
			l = append(l, last{s, sign(s, 0, 0), slices.Contains(ending, s)})
		}
	}
	return l
}

// moved is a token at another place.
func moved(tok api.Token, at, line int) api.Token {
	tok.At, tok.Line = at, line
	return tok
}

// wantEnding asks of src, which begins with the token, what stands at the line's end.
func wantEnding(t *testing.T, src string, first api.Token, ends bool, lineEnd int, behind ...api.Token) {
	t.Helper()
	want := []api.Token{moved(first, 0, 1)}
	if ends {
		want = append(want, put(lineEnd, 1))
	}
	wantTokens(t, src, append(want, behind...)...)
}

func TestScanLineEndBehindEachToken(t *testing.T) {
	for _, x := range lastTokens() {
		n := len(x.s)
		wantEnding(t, x.s, x.tok, x.ends, n, end(n, 1))
		wantEnding(t, x.s+"\n", x.tok, x.ends, n, end(n+1, 2))
		wantEnding(t, x.s+" \t\r", x.tok, x.ends, n+3, end(n+3, 1))
		wantEnding(t, x.s+" \r\n", x.tok, x.ends, n+2, end(n+3, 2))
		wantEnding(t, x.s+" // c", x.tok, x.ends, n+5, end(n+5, 1))
		wantEnding(t, x.s+" // c\n", x.tok, x.ends, n+5, end(n+6, 2))
		wantEnding(t, x.s+" //", x.tok, x.ends, n+3, end(n+3, 1))
		wantEnding(t, x.s+" //\n", x.tok, x.ends, n+3, end(n+4, 2))
		// A line without tokens has no semicolon, whatever ended the line ahead.
		wantEnding(t, x.s+"\n\n", x.tok, x.ends, n, end(n+2, 3))
		wantEnding(t, x.s+"\n // c\n ", x.tok, x.ends, n, end(n+8, 3))
		wantEnding(t, x.s+"\n// c", x.tok, x.ends, n, end(n+5, 2))
		// The last token of the line counts, not the one ahead of it or on another line.
		wantEnding(t, x.s+"\n{\n", x.tok, x.ends, n, sign("{", n+1, 2), end(n+3, 3))
		wantEnding(t, x.s+"\nx", x.tok, x.ends, n, name("x", n+1, 2), put(n+2, 2), end(n+2, 2))
		wantEnding(t, x.s+" {\n", x.tok, false, 0, sign("{", n+1, 1), end(n+3, 2))
		wantEnding(t, x.s+" x\n", x.tok, false, 0, name("x", n+1, 1), put(n+2, 1), end(n+3, 2))
		wantEnding(t, x.s+" ;\n", x.tok, false, 0, semi(n+1, 1), end(n+3, 2))
	}
}

func TestScanLines(t *testing.T) {
	wantTokens(t, "\n\nx\n\n(\r\n)\n", name("x", 2, 3), put(3, 3), sign("(", 5, 5), sign(")", 8, 6), put(9, 6), end(10, 7))
	wantTokens(t, "x\ry", name("x", 0, 1), name("y", 2, 1), put(3, 1), end(3, 1))
	// A line's end within a text is written as \n and ends no line.
	wantTokens(t, "\"\\n\"\nx;", text("\n", 0, 1), put(4, 1), name("x", 5, 2), semi(6, 2), end(7, 2))
	wantTokens(t, "a//b//c\n//d\ne", name("a", 0, 1), put(7, 1), name("e", 12, 3), put(13, 3), end(13, 3))
	wantTokens(t, ";\n;;\n", semi(0, 1), semi(2, 2), semi(3, 2), end(5, 3))
}

func TestScanWholeSource(t *testing.T) {
	wantTokens(t, "func main() {\n\tfor i := 0; i < 3; i++ { // on\n\t\tprintln(\"n\", i)\n\t}\n}\n",
		word("func", 0, 1), name("main", 5, 1), sign("(", 9, 1), sign(")", 10, 1), sign("{", 12, 1),
		word("for", 15, 2), name("i", 19, 2), sign(":=", 21, 2), number(0, 24, 2), semi(25, 2), name("i", 27, 2), sign("<", 29, 2), number(3, 31, 2), semi(32, 2), name("i", 34, 2), sign("++", 35, 2), sign("{", 38, 2),
		word("println", 48, 3), sign("(", 55, 3), text("n", 56, 3), sign(",", 59, 3), name("i", 61, 3), sign(")", 62, 3), put(63, 3),
		sign("}", 65, 4), put(66, 4), sign("}", 67, 5), put(68, 5), end(69, 6))
}

// --- L2: Join ---

func wantJoin(t *testing.T, want string, l ...api.Token) {
	t.Helper()
	got, e := lex.Join(l)
	if got != want || e != api.OK {
		t.Errorf("Join %+v: %q, %d; want %q", l, got, e, want)
	}
}

func wantNoJoin(t *testing.T, l ...api.Token) {
	t.Helper()
	if got, e := lex.Join(l); got != "" || e != api.ErrArg {
		t.Errorf("Join %+v: %q, %d", l, got, e)
	}
}

func TestJoin(t *testing.T) {
	wantJoin(t, "")
	wantJoin(t, "", end(0, 0))
	wantJoin(t, "x", name("x", 0, 0))
	wantJoin(t, "x ", name("x", 0, 0), end(0, 0))
	wantJoin(t, "x y", name("x", 0, 0), name("y", 0, 0))
	wantJoin(t, "/ /", sign("/", 0, 0), sign("/", 0, 0))
	wantJoin(t, "; ;", semi(0, 0), put(0, 0))
	wantJoin(t, "0 9223372036854775807", number(0, 0, 0), number(math.MaxInt64, 0, 0))
	wantJoin(t, `"" "a\n\t\\\"`+"\xff\x00\r"+`" "//"`, text("", 0, 0), text("a\n\t\\\"\xff\x00\r", 0, 0), text("//", 0, 0))
	wantJoin(t, `for { x <- 5 ; } ; `, word("for", 0, 0), sign("{", 0, 0), name("x", 0, 0), sign("<-", 0, 0), number(5, 0, 0), semi(0, 0), sign("}", 0, 0), put(0, 0), end(0, 0))
	n30 := strings.Repeat("a", 30)
	wantJoin(t, n30+" _", name(n30, 0, 0), name("_", 0, 0))
	for _, x := range lastTokens() {
		wantJoin(t, x.s, x.tok)
		wantJoin(t, "x "+x.s+" x", name("x", 0, 0), x.tok, name("x", 0, 0))
	}
}

// The fields that count for nothing may hold whatever they like.
func TestJoinPassesOverOtherFields(t *testing.T) {
	for _, at := range []int{math.MinInt, -1, 0, 1, math.MaxInt} {
		for _, n := range []int64{math.MinInt64, -1, 0, 7, math.MaxInt64} {
			wantJoin(t, `x for "a" + ; ; `,
				api.Token{Kind: api.TokenName, Text: "x", N: n, At: at, Line: at}, api.Token{Kind: api.TokenWord, Text: "for", N: n, At: at, Line: at},
				api.Token{Kind: api.TokenText, Text: "a", N: n, At: at, Line: at}, api.Token{Kind: api.TokenSign, Text: "+", N: n, At: at, Line: at},
				api.Token{Kind: api.TokenSemi, Text: ";", N: n, At: at, Line: at}, api.Token{Kind: api.TokenSemi, Text: "\n", N: n, At: at, Line: at},
				api.Token{Kind: api.TokenEnd, N: n, At: at, Line: at})
		}
		for _, s := range []string{"", "x", "-1", "\n", "#"} {
			wantJoin(t, "12 ", api.Token{Kind: api.TokenInt, N: 12, Text: s, At: at, Line: at}, api.Token{Kind: api.TokenEnd, Text: s, At: at, Line: at})
		}
	}
}

// wrongTokens are such as Join refuses, at least one for each reason.
func wrongTokens() []api.Token {
	l := []api.Token{
		// A Kind that is none.
		{Kind: -1, Text: "x"}, {Kind: 7, Text: "x"}, {Kind: 99}, {Kind: math.MaxInt, Text: ";"}, {Kind: math.MinInt},
		// N below 0.
		number(-1, 0, 0), number(math.MinInt64, 0, 0), {Kind: api.TokenInt, N: -5, Text: "5"},
	}
	for _, s := range []string{"", "for", "int", "1", "1x", "a b", " a", "a\n", "é", "a.b", "+", "\"a\"", strings.Repeat("a", 31), "a\x00"} {
		l = append(l, name(s, 0, 0))
	}
	for _, s := range []string{"", "x", "For", "for ", "fo", "mutex", "1", "+", ";", "_", "for for"} {
		l = append(l, word(s, 0, 0))
	}
	for _, s := range []string{"", ";", "\n", "&", "|", "#", "//", "===", "<--", "=!", "+ ", " +", "x", "for", "1", "[", "]", "+=", "...", "^", "~", "?", "\"", "\\", "\x00", "\xff", ">>", "<<"} {
		l = append(l, sign(s, 0, 0))
	}
	for _, s := range []string{"", ",", ";;", " ;", "; ", "\n\n", ";\n", "\r\n", "\r", " ", "x", "\\n"} {
		l = append(l, api.Token{Kind: api.TokenSemi, Text: s})
	}
	return l
}

func TestJoinWrong(t *testing.T) {
	x := name("x", 0, 0)
	for _, bad := range wrongTokens() {
		wantNoJoin(t, bad)
		wantNoJoin(t, bad, x)
		wantNoJoin(t, x, bad)
		wantNoJoin(t, x, bad, end(0, 0))
	}
	wantNoJoin(t, end(0, 0), x)
	wantNoJoin(t, end(0, 0), end(0, 0))
	wantNoJoin(t, x, end(0, 0), x, end(0, 0))
}

func TestJoinEverySingleByteAsASign(t *testing.T) {
	for c := range 256 {
		b := string([]byte{byte(c)})
		if strings.Contains("+-*/%(){},:=<>!.", b) {
			wantJoin(t, b, sign(b, 0, 0))
		} else {
			wantNoJoin(t, sign(b, 0, 0))
		}
		for d := range 256 {
			s := b + string([]byte{byte(d)})
			_, e := lex.Join([]api.Token{sign(s, 0, 0)})
			if ok := slices.Contains(strings.Fields(theSigns), s); ok != (e == api.OK) {
				t.Errorf("Join of the sign %q: %d", s, e)
			}
		}
	}
}

func TestJoinLeavesItsArgument(t *testing.T) {
	whole := []api.Token{name("x", 4, 5), put(6, 7), number(8, 9, 10), end(11, 12), word("for", 1, 2), {Kind: 99}}
	kept := slices.Clone(whole)
	if got, e := lex.Join(whole[:4]); got != "x ; 8 " || e != api.OK {
		t.Errorf("Join: %q, %d", got, e)
	}
	wantNoJoin(t, whole...)
	if !slices.Equal(whole, kept) {
		t.Errorf("Join wrote into its argument: %+v", whole)
	}
}

// --- L2: Signs ---

func wantSigns() []string {
	l := strings.Fields(theSigns)
	slices.SortFunc(l, func(a, b string) int {
		if len(a) != len(b) {
			return len(b) - len(a)
		}
		return strings.Compare(a, b)
	})
	return l
}

func TestSigns(t *testing.T) {
	if got, want := lex.Signs(), wantSigns(); !slices.Equal(got, want) {
		t.Errorf("Signs: %q, want %q", got, want)
	}
}

// --- P3.2 (back) ---

// likewise are the tokens that Scan tells of what l is joined to, without their places.
func likewise(l []api.Token) []api.Token {
	var want []api.Token
	ends := false
	for _, tok := range l {
		if tok.Kind == api.TokenEnd {
			break
		}
		if tok.Kind == api.TokenSemi {
			tok.Text = ";"
		}
		want = append(want, moved(tok, 0, 0))
		ends = slices.ContainsFunc(lastTokens(), func(x last) bool {
			same := x.tok.Kind == tok.Kind && (x.tok.Text == tok.Text || tok.Kind == api.TokenName || tok.Kind == api.TokenText)
			return x.ends && same
		})
	}
	if ends {
		want = append(want, put(0, 0))
	}
	return append(want, end(0, 0))
}

func wantBack(t *testing.T, l []api.Token) {
	t.Helper()
	src, e := lex.Join(l)
	if e != api.OK {
		t.Fatalf("Join %+v: %d", l, e)
	}
	got, err := lex.Scan(src)
	if len(src) > api.MaxSource {
		wantFault(t, src, 0, api.ErrLexLong)
		return
	}
	for i := range got {
		got[i] = moved(got[i], 0, 0)
	}
	if want := likewise(l); err != nil || !slices.Equal(got, want) {
		t.Errorf("Scan of %s: %+v, %v; want %+v", short(src), got, err, want)
	}
}

func TestScanOfJoinEachPair(t *testing.T) {
	wantBack(t, nil)
	wantBack(t, []api.Token{end(0, 0)})
	all := lastTokens()
	for _, a := range all {
		wantBack(t, []api.Token{a.tok})
		wantBack(t, []api.Token{a.tok, end(0, 0)})
		wantBack(t, []api.Token{a.tok, put(0, 0)})
		for _, b := range all {
			wantBack(t, []api.Token{a.tok, b.tok})
		}
	}
}

// mixed is a list of tokens that Join takes.
func mixed(r *rand.Rand) []api.Token {
	all := lastTokens()
	l := make([]api.Token, r.Intn(40))
	for i := range l {
		switch r.Intn(8) {
		case 0:
			l[i] = number(int64(r.Uint64()>>(1+r.Intn(63))), 0, 0)
		case 1:
			b := make([]byte, r.Intn(10))
			for j := range b {
				b[j] = byte(r.Intn(256))
			}
			l[i] = text(string(b), 0, 0)
		case 2:
			l[i] = put(0, 0)
		case 3:
			l[i] = name("n"+strings.Repeat("m", r.Intn(30)), 0, 0)
		default:
			l[i] = all[r.Intn(len(all))].tok
		}
	}
	if r.Intn(2) == 0 {
		l = append(l, end(0, 0))
	}
	return l
}

func TestScanOfJoinMixed(t *testing.T) {
	r := source()
	for range 3000 {
		wantBack(t, mixed(r))
	}
}

func TestScanOfJoinLong(t *testing.T) {
	one := []api.Token{name("x", 0, 0)}
	wantBack(t, slices.Repeat(one, 10000))
	wantBack(t, append(slices.Repeat(one, 10000), end(0, 0)))
	wantBack(t, append(slices.Repeat(one, 10000), number(1, 0, 0)))
	wantBack(t, append(slices.Repeat(one, 9999), name("xy", 0, 0)))
	wantBack(t, []api.Token{text(strings.Repeat("a", 19998), 0, 0)})
	wantBack(t, []api.Token{text(strings.Repeat("\n", 9999), 0, 0)})
	wantBack(t, []api.Token{text(strings.Repeat("a", 19999), 0, 0)})
}

// --- P3.3 (places), and L1 as the chapter's words say it, read anew ---

// The model takes the longest piece by patterns, in place of going on byte by byte.
var (
	modelGap    = regexp.MustCompile(`^(?s:[ \t\r]+|//[^\n]*)`)
	modelName   = regexp.MustCompile(`^[A-Za-z_][A-Za-z_0-9]*`)
	modelNumber = regexp.MustCompile(`^[0-9]+[A-Za-z_]?`)
	modelText   = regexp.MustCompile(`^"(?s:[^"\\\n]|\\[\\"nt])*"`)
	modelSign   = regexp.MustCompile(`^(:=|==|!=|<=|>=|&&|\|\||<-|\+\+|--|[-+*/%(){},:=<>!.;])`)
	modelEnds   = regexp.MustCompile(`^(break|continue|return|int|bool|Mutex|WaitGroup|true|false|nil|\)|}|\+\+|--)$`)
)

// modelToken is the token that rest begins with, and its size; its error, if it has one.
func modelToken(rest string) (api.Token, int, api.Errno) {
	if s := modelName.FindString(rest); s != "" {
		switch {
		case len(s) > 30:
			return api.Token{}, 0, api.ErrLexName
		case words.Word(s):
			return word(s, 0, 0), len(s), api.OK
		}
		return name(s, 0, 0), len(s), api.OK
	}
	if s := modelNumber.FindString(rest); s != "" {
		n, err := strconv.ParseInt(s, 10, 64)
		if err != nil || len(s) > 1 && s[0] == '0' {
			return api.Token{}, 0, api.ErrLexNumber
		}
		return number(n, 0, 0), len(s), api.OK
	}
	if rest[0] == '"' {
		s := modelText.FindString(rest)
		if s == "" {
			return api.Token{}, 0, api.ErrLexText
		}
		return text(strings.NewReplacer(`\\`, `\`, `\"`, `"`, `\n`, "\n", `\t`, "\t").Replace(s[1:len(s)-1]), 0, 0), len(s), api.OK
	}
	if s := modelSign.FindString(rest); s != "" {
		return signToken(s, 0), len(s), api.OK
	}
	return api.Token{}, 0, api.ErrLexByte
}

// model is what Scan must tell: the tokens, or the fault.
func model(src string) ([]api.Token, api.Fault) {
	var l []api.Token
	at, line := 0, 1
	for _, text := range strings.SplitAfter(src, "\n") {
		body := strings.TrimSuffix(text, "\n")
		var latest api.Token
		for rest := body; rest != ""; {
			place := at + len(body) - len(rest)
			if gap := modelGap.FindString(rest); gap != "" {
				rest = rest[len(gap):]
				continue
			}
			tok, size, e := modelToken(rest)
			if e != api.OK {
				return nil, api.Fault{At: place, Err: e}
			}
			tok.At, tok.Line = place, line
			l, latest, rest = append(l, tok), tok, rest[size:]
		}
		switch latest.Kind {
		case api.TokenName, api.TokenInt, api.TokenText:
			l = append(l, put(at+len(body), line))
		case api.TokenWord, api.TokenSign:
			if modelEnds.MatchString(latest.Text) {
				l = append(l, put(at+len(body), line))
			}
		}
		at += len(text)
		if body != text {
			line++
		}
	}
	return append(l, end(at, line)), api.Fault{}
}

// gapOnly tells what may stand between two tokens.
var gapOnly = regexp.MustCompile(`^(?s:[ \t\r\n]|//[^\n]*(\n|$))*$`)

func wantPlaces(t *testing.T, src string, l []api.Token) {
	t.Helper()
	behind, line := 0, 1
	for i, tok := range l {
		wantLine := 1 + strings.Count(src[:tok.At], "\n")
		if tok.At < behind || tok.Line < line || tok.Line != wantLine {
			t.Errorf("%s: token %d falls back: %+v", short(src), i, tok)
		}
		if gap := src[behind:tok.At]; !gapOnly.MatchString(gap) {
			t.Errorf("%s: %q stands ahead of token %d", short(src), gap, i)
		}
		line = tok.Line
		behind = tok.At
		if tok.Kind == api.TokenEnd || tok.Kind == api.TokenSemi && tok.Text == "\n" {
			continue
		}
		_, size, e := modelToken(src[tok.At:])
		if e != api.OK {
			t.Errorf("%s: no token begins at %d", short(src), tok.At)
		}
		behind += size
	}
	if final := l[len(l)-1]; final.Kind != api.TokenEnd || final.At != len(src) {
		t.Errorf("%s: it ends with %+v", short(src), final)
	}
}

func wantModel(t *testing.T, src string) bool {
	t.Helper()
	want, fault := model(src)
	if fault.Err != api.OK {
		wantFault(t, src, fault.At, fault.Err)
		return false
	}
	wantTokens(t, src, want...)
	got, _ := lex.Scan(src)
	wantPlaces(t, src, got)
	return true
}

// Every text of up to five of these bytes, so that no order of them is left out.
func TestScanAllShortSources(t *testing.T) {
	var all func(s string)
	all = func(s string) {
		wantModel(t, s)
		if len(s) < 5 {
			for _, c := range "a1\"\\/\n -<&" {
				all(s + string(c))
			}
		}
	}
	all("")
}

func TestScanMixedPieces(t *testing.T) {
	pieces := []string{" ", " ", "\t", "\r", "\n", "\n", "// c", "// \"#\n", "//\n", "x", "y1", "_", "for", "break", "return", "int", "0", "12", "9223372036854775807", `"a"`, `"\n\""`, `""`}
	pieces = append(pieces, strings.Fields(theSigns)...)
	wrong := []string{"#", "&", "|", "01", "1a", "9223372036854775808", `"`, `"\x"`, strings.Repeat("a", 31), "\x00", "\xff", "é", "["}
	r := source()
	good := 0
	for range 5000 {
		var src strings.Builder
		for range r.Intn(60) {
			p := pieces[r.Intn(len(pieces))]
			if r.Intn(300) == 0 {
				p = wrong[r.Intn(len(wrong))]
			}
			src.WriteString(p)
			// Else nearly each number stands ahead of a letter.
			if r.Intn(3) > 0 {
				src.WriteByte(' ')
			}
		}
		if wantModel(t, src.String()) {
			good++
		}
	}
	if good < 500 {
		t.Errorf("no more than %d sources have all tokens right", good)
	}
}

func TestScanRawBytes(t *testing.T) {
	r := source()
	for range 3000 {
		b := make([]byte, r.Intn(12))
		for i := range b {
			b[i] = byte(r.Intn(256))
		}
		wantModel(t, string(b))
	}
}

// --- new memory; P2: the same answer each time, whatever was asked between ---

func TestScanAnswersNewMemory(t *testing.T) {
	const src = "x := 1\n"
	want := []api.Token{name("x", 0, 1), sign(":=", 2, 1), number(1, 5, 1), put(6, 1), end(7, 2)}
	first, _ := lex.Scan(src)
	second, _ := lex.Scan(src)
	// Behind its length too.
	first = first[:cap(first)]
	for i := range first {
		first[i] = api.Token{Kind: 99, Text: "gone"}
	}
	if !slices.Equal(second, want) {
		t.Errorf("an answer changed with an earlier one: %+v", second)
	}
	wantTokens(t, src, want...)
}

func TestSignsAreNewMemory(t *testing.T) {
	first, second := lex.Signs(), lex.Signs()
	first = first[:cap(first)]
	for i := range first {
		first[i] = "#"
	}
	if !slices.Equal(second, wantSigns()) {
		t.Errorf("an answer changed with an earlier one: %q", second)
	}
	if third := lex.Signs(); !slices.Equal(third, wantSigns()) {
		t.Errorf("a later answer is changed: %q", third)
	}
	// Nor has what the others go by changed.
	wantTokens(t, "x++", name("x", 0, 1), sign("++", 1, 1), put(3, 1), end(3, 1))
	wantFault(t, "#", 0, api.ErrLexByte)
	wantJoin(t, "++", sign("++", 0, 0))
	wantNoJoin(t, sign("#", 0, 0))
}

func TestSameAnswersAgain(t *testing.T) {
	for range 50 {
		wantTokens(t, "a\n", name("a", 0, 1), put(1, 1), end(2, 2))
		wantFault(t, "a #", 2, api.ErrLexByte)
		wantTokens(t, "{", sign("{", 0, 1), end(1, 1))
		wantJoin(t, "a ; ", name("a", 0, 0), put(0, 0), end(0, 0))
		wantNoJoin(t, sign("#", 0, 0))
	}
}
