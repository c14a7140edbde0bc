package parse_test

import (
	"strings"
	"testing"

	"drowse/api"
)

// wrongIn: the statements of an f have a token that cannot stand where the mark ^ does.
func wrongIn(t *testing.T, marked ...string) {
	t.Helper()
	for _, m := range marked {
		wantToken(t, "func f() { "+m)
	}
}

func TestWrongFiles(t *testing.T) {
	for _, m := range []string{
		"^x", "^1", "^{", "^}", "^)", "^\"a\"", ";^x", ";;^for", "^return", "^var x int",
		"func^", "func^ ;", "func ^1", "func ^_() { }", "func ^for() { }", "func ^(", "func f^", "func f ^{", "func f ^)", "func f^\n() { }",
		"func f(^", "func f(^_ int) { }", "func f(^int) { }", "func f(^,", "func f(^1", "func f(a^)", "func f(a^, b int) { }", "func f(a^\nint)", "func f(a ^\"a\")", "func f(a int^", "func f(a int ^b", "func f(a int,^)", "func f(a int,^", "func f(a int^;", "func f(a int^\n) { }",
		"func f()^", "func f()^\n{ }", "func f() ^;", "func f() ^x", "func f() ^nil { }", "func f() (^) { }", "func f() int ^int { }", "func f() int^", "func f() (int^, int) { }",
		"func f() {^", "func f() { ^)", "func f() { } ^func g() { }", "func f() { } ^x", "func f() { } ^}", "func f() { };^}", "func f() { }\n^{ }", "func f() { a()^", "func f() { a(); ^",
		"func f() { ^func g() { } }", "func f() { } ^{ }", "func f() { } ^1", "func f() { };;^)",
	} {
		wantToken(t, m)
	}
}

func TestWrongTypes(t *testing.T) {
	for _, form := range []string{"func f(p ", "func f() { var x ", "func f() { x = make("} {
		for _, m := range []string{
			"^x", "^1", "^;", "^)", "^true", "^nil", "^make", "^\"int\"", "chan ^x", "chan ^)", "chan ^;", "chan <- ^)", "chan <- <- ^int", "chan <- <- ^<-", "<- ^int", "<- ^(", "<- ^<-", "<- ^;",
			"<-chan ^1", "<-chan <- ^int", "<-chan <- ^(", "(^)", "(^1", "(int^;", "(int^,", "(int^}", "((int)^,", "chan (int^\n)", "chan (chan ^)",
		} {
			wantToken(t, form+m)
		}
	}
	for _, m := range []string{"func f(p int ^int", "func f(p chan int ^<-", "func f() { var x int ^int", "func f() { var x int ^,", "func f() { x = make(int ^int", "func f() { x = make(int ^;", "func f() { x = make(int ^("} {
		wantToken(t, m)
	}
}

func TestWrongSettings(t *testing.T) {
	wrongIn(t,
		"x^ }", "x^\n", "x ^y", "x ^1", "x ^\"a\"", "x ^)", "x ^{", "x ^!", "x ^:", "x ^for", "x ^true", "x.^x", "x^\n.Lock()",
		"x :=^ ;", "x := ^}", "x := ^_", "x := ^range c", "x := 1 ^:=", "x := 1 ^=", "x := 1 ^, 2", "x := 1 ^<- 2", "x := ^\"a\"", "x := 1 ^2", "x := 1 ^{",
		"x =^ ;", "x = ^}", "x = ^_", "x = ^range c", "x = y ^= z", "x = y ^:= z", "x = 1 ^, 2", "x = c ^<- 2", "x = y^++",
		"_^ }", "_ ^:= 1", "_ ^++", "_ ^--", "_ ^<- 1", "_ ^+ 1", "_^()", "_^.Lock()", "_ ^;", "_ ^_", "_ = ^_", "_ = ^;", "_ = ^range",
		"x, ^;", "x, ^1", "x, ^(", "x, ^<-c", "x, ^\"a\"", "x, y^ }", "x, y ^, z", "x, y ^<- 1", "x, y^++", "x, y^.Lock()", "x, y^()", "x, y ^+",
		"x, y := ^1", "x, y := ^c", "x, y := ^(<-c)", "x, y := ^-<-c", "x, y = ^f()", "x, y = ^(<-c)", "x, y = ^range c", "x, y := <-c ^+ 1", "x, y := <-c ^, 1", "x, y := <-c ^<- 1", "x, y = <-c ^|| a", "x, y := <-^;", "x, y := <-^}",
		"_, _ ^:= <-c", "_, _ = ^1", "_, ^;", "_, x = ^c", "_, _ ^, x",
		"x++ ^1", "x++^++", "x++^ + 1", "x-- ^= 1", "x++^.Lock()", "^++x", "^--x",
		"(x) ^= 1", "(x) ^:= 1", "(x)^++", "(x)^--", "(x)^, y = <-c", "x, ^(y) = <-c", "((x)) ^= 1", "(^_) = 1", "(x ^= 1)", "(x ^:= 1)", "(x^++)", "(x^, y)", "(c ^<- 1)",
		"f() ^= 1", "f() ^:= 1", "f()^++", "f()^, y = <-c", "1 ^= 2", "1^++", "<-c ^= 1", "<-c ^, x = <-c", "x.Lock() ^= 1", "x + y ^= 1", "true ^:= 1", "len(c) ^= 1", "make ^= 1",
	)
}

func TestWrongDos(t *testing.T) {
	wrongIn(t,
		"1^ }", "1^\n", "x^;", "true^;", "false^ }", "nil^ }", "(x)^ }", "((1))^;", "-x^ }", "!f()^ }", "+(<-c)^ }", "-<-c^;", "f() + 1^ }", "<-c + 1^;", "f() == g()^ }", "(f() + 1)^;", "make(Mutex)^ }", "(make(int, 1))^ }", "x * y^\n",
		"x^ case", "<-c ^x", "f()^()", "f()^f()", "f() ^{", "(f())^()", "f()^:", "<-c ^:", "f() ^else", "c <- 1 ^<- 2", "c <- ^;", "c <- ^}", "c <- ^_", "c <- 1 ^= 2", "c <- 1 ^, 2", "c <- x^++", "c <- d ^:= e",
		"<-^_", "<-^;", "-^}", "!^)", "+^==", "(^)", "(^;", "(x^;", "(x^ }", "(f()^,", "^)", "^,", "^.", "^==", "^*", "^:", "^:=", "^=", "^\"a\"", "^int", "^chan", "^range", "^else", "^case", "^default", "^func", "^Mutex",
		"x + ^;", "x * ^}", "x == ^== y", "x + ^* y", "x && ^&& y", "x || ^)", "x + ^_", "a.^;", "a.^lock()", "a.^x", "a.^1", "a.^(", "a.^len()", "a.Lock^;", "a.Lock ^{", "a.Lock^.Lock()", "a.Lock(^;", "a.Lock(1^;", "a.Lock(1,^)", "1.^5",
		"f(^;", "f(^,", "f(^_)", "f(^\"a\")", "f(a^;", "f(a,^)", "f(a ^b", "f(a^ }", "f(a^\n)", "f(^int)", "f(a ^= 1)", "f(a ^<- 1)", "len^;", "len ^x", "len^.Lock()", "cap ^{", "close ^<- 1", "yield^;", "yield ^}", "len(^\"a\")", "yield(^\"a\")", "m.Add(^\"a\")",
		"println^;", "println(^;", "println(\"a\"^;", "println(\"a\",^)", "println(\"a\" ^+ 1)", "println(1 + ^\"a\")", "println((^\"a\"))", "println(\"a\" ^\"b\")", "println(\"a\"^.Lock())", "println(-^\"a\")", "println(^int)", "println(a^:",
		"make^;", "make(^)", "make(^x)", "make(int,^)", "make(int, 1^, 2)", "make(int, ^int)", "make(int^;", "make(int, ^\"a\")",
	)
}

func TestWrongWords(t *testing.T) {
	wrongIn(t,
		"var ^;", "var ^_ int", "var ^1", "var ^int", "var x^;", "var x ^= 1", "var x^, y int", "var x int ^:= 1", "var x int = ^;", "var x int = ^_", "var x int = 1 ^, 2", "var x int = c ^<- 1", "var x int^++",
		"go ^;", "go ^1", "go ^_()", "go ^println()", "go ^len(c)", "go ^(f())", "go ^<-c", "go f^;", "go f^.Lock()", "go f()^.Lock()", "go f()^()", "go f() ^+ 1", "go f() ^<- 1", "go f(^;", "go f(^\"a\")", "go ^func", "go ^make(int)", "go f ^=",
		"return ^_", "return ^=", "return ^)", "return 1^, 2", "return ^\"a\"", "return 1 ^2", "return c ^<- 1", "return ^return", "return ^{", "return ^var", "return x^++", "return x ^= 1", "return ^int",
		"break ^x", "break ^1", "break ^break", "continue ^x", "continue ^{", "break^()", "return ^case", "return ^default", "break ^case", "{ ^case", "{ break ^default",
		"if ^;", "if ^{", "if a^;", "if a^\n{", "if a ^}", "if x ^:= 1", "if x ^= 1", "if c ^<- 1", "if ^_", "if a ^else", "if a { }^ a()", "if a { } ^if", "if a { } ^{ }", "if a { }; ^else", "if a { }\n^else { }", "if a { } else ^;", "if a { } else ^a()", "if a { } else ^for", "if a { } else { } ^else", "if a { } else if ^{", "if a { } else if b^ }", "if ^\"a\"", "if a^; b { }", "if ^if",
		"{ ^)", "{ } ^{ }", "{ } ^a()", "{ a()^", "{ ^",
	)
}

func TestWrongFors(t *testing.T) {
	wrongIn(t,
		"for^ }", "for ^)", "for ^=", "for ^var x int", "for ^\"a\"", "for ^for", "for a^;", "for a^\n{ }", "for a ^}", "for 1^; ;", "for (a)^;", "for a + b^;", "for -f()^; ;", "for make(int)^;", "for a ^b",
		"for x := 1 ^{ }", "for x = 1 ^{ }", "for x++ ^{ }", "for c <- 1 ^{ }", "for x, y := <-c ^{ }", "for x, _ = <-c ^{ }", "for _ ^{ }", "for _ ^:= 1", "for _ = 1 ^{ }", "for _, _ ^:= <-c",
		"for { } ^{ }", "for ; ^{ }", "for ; a ^{ }", "for ; x ^= 1; { }", "for ; ^_", "for ; c ^<- 1", "for ;; ^;", "for ;; ^}", "for ;; ^)", "for ;;^; { }", "for f() ^}", "for f(); ^}", "for f(); ^range", "for f(); g() ^{",
		"for x := 1; ; y ^:= 2 { }", "for ;; x ^:= 1 { }", "for ;; x, y ^:= <-c { }", "for ;; _, y ^:= <-c { }", "for ;; _ ^:= 1 { }", "for ;; _, _ ^:= <-c { }", "for ;; 1 ^{ }", "for ;; x ^{ }", "for ;; f() + 1 ^{ }", "for ;; (x) ^= 1 { }", "for ;; x = ^range c { }", "for ;; x, y = ^1", "for ;; ^range c", "for ;; f()^; { }", "for ;; c <- 1 ^<-", "for ;; _^++", "for ;; ^var x int { }",
		"for range ^{ }", "for range ^;", "for range ^_", "for range c^;", "for range c^\n{ }", "for range ^range", "for range c ^}", "for range x ^:= c", "for _ = ^range c { }", "for _ ^:= range c { }", "for x, y := ^range c { }", "for x, _ = ^range c { }", "for (x) ^= range c { }", "for (x) ^:= range c { }", "for x = ^{ }", "for x = ^;", "for x = range ^{ }", "for x := range c^; ; { }", "for x := range c ^<- 1", "for x++ ^range", "for x ^range c", "for f() ^= range c { }", "for x := (^range c)", "for x = 1 + ^range c", "for x := ^= range", "x, y = ^range c",
	)
}

func TestWrongSwitches(t *testing.T) {
	wrongIn(t,
		"switch ^;", "switch ^}", "switch ^case", "switch a^;", "switch a^\n{ }", "switch a ^}", "switch x ^:= 1", "switch x ^= 1", "switch c ^<- 1", "switch ^_", "switch ^\"a\"", "switch a^; b { }",
		"switch { ^;", "switch { ^x", "switch { ^a()", "switch { ^)", "switch { ^", "switch a { ^{", "switch { } ^{ }", "switch { } ^else", "switch { } ^case",
		"switch { case ^:", "switch { case ^;", "switch { case ^_", "switch { case ^default", "switch { case ^\"a\"", "switch { case a^;", "switch { case a ^}", "switch { case a,^:", "switch { case a, ^_", "switch { case a ^:=", "switch { case a ^= 1", "switch { case c ^<- 1", "switch { case x^++", "switch { case a ^b", "switch { case a: ^:", "switch { case a: ^)", "switch { case a: x^ }", "switch { case a: x ^case", "switch { case a: f() ^f()", "switch { case a: ^", "switch { case a: f(); ^",
		"switch { default ^;", "switch { default ^a", "switch { default ^}", "switch { default: ^:", "switch { default: ^default:", "switch { default: f() ^default:", "switch { default: ; ^default:", "switch { default: case a: ^default: }", "switch a { case b: default: case c: f(); ^default: }",
		"switch { default: switch { default: } ^default: }", "switch { case a: { ^case b: } }", "switch { case a: if b { ^default: } }", "switch { default: { f() ^case b: } }",
	)
}

func TestWrongSelects(t *testing.T) {
	wrongIn(t,
		"select ^;", "select ^a", "select ^(", "select ^case", "select^ }", "select { ^;", "select { ^x", "select { ^<-c", "select { ^", "select { ^)", "select { } ^{ }",
		"select { case ^:", "select { case ^;", "select { case ^default", "select { case ^\"a\"", "select { case ^var", "select { case x^:", "select { case 1^:", "select { case (x)^:", "select { case f()^:", "select { case (f())^:", "select { case m.Lock()^:", "select { case (<-c).Lock()^:", "select { case <-c + 1^:", "select { case (<-c) + 1^:", "select { case -<-c^:", "select { case (-<-c)^:", "select { case make(int)^:", "select { case x^;", "select { case <-c^;", "select { case <-c^\n:", "select { case <-c^, <-d", "select { case <-c ^}",
		"select { case x^++", "select { case x^--", "select { case _^:", "select { case _^++", "select { case _ ^:= <-c", "select { case _ ^<- 1", "select { case x := ^1", "select { case x := ^c", "select { case x := ^(<-c)", "select { case x := ^-<-c", "select { case x := ^range c", "select { case x = ^1", "select { case x = ^(<-c)", "select { case _ = ^1", "select { case x := <-c ^+ 1", "select { case x := <-c ^<- 1", "select { case x = <-c ^== d", "select { case x := <-c^;", "select { case x := <-c ^, y",
		"select { case x, ^:", "select { case x, y^:", "select { case x, y := ^1", "select { case x, y := ^(<-c)", "select { case x, y = ^c", "select { case _, _ ^:= <-c:", "select { case x, y := <-c ^* 2", "select { case (x) ^:= <-c", "select { case (x) ^= <-c", "select { case x, ^(y)", "select { case <-c ^= 1", "select { case <-c ^:= d", "select { case f() ^= <-c",
		"select { case c <- ^:", "select { case c <- 1^;", "select { case c <- 1 ^<- 2", "select { case c <- 1 ^, 2", "select { case c <- 1 ^= 2", "select { case (c ^<- 1)", "select { case <-c: ^:", "select { case <-c: x ^case", "select { case <-c: ^", "select { case ^case",
		"select { default: ^default: }", "select { default ^a", "select { default: f() ^default: }", "select { default: case <-c: ^default: }", "select { case <-c: default: case <-c: ; ^default: }", "select { default: select { default: } ^default: }", "select { case <-c: { ^case <-c: } }",
	)
}

func TestLexFirst(t *testing.T) {
	for _, c := range []struct {
		src string
		at  int
		e   api.Errno
	}{
		{"func f() { # }", 11, api.ErrLexByte}, {"#", 0, api.ErrLexByte}, {"x #", 2, api.ErrLexByte}, {"# x", 0, api.ErrLexByte},
		{") func f() { x = 01 }", 17, api.ErrLexNumber}, {"func f() { 01 } )", 11, api.ErrLexNumber}, {"func f( \"a", 8, api.ErrLexText}, {"\"a\nfunc", 0, api.ErrLexText},
		{"func f( func " + strings.Repeat("n", 31), 13, api.ErrLexName}, {"func " + strings.Repeat("n", 31) + " 1", 5, api.ErrLexName},
		{"func f() { x := 9223372036854775808 }", 16, api.ErrLexNumber}, {"func f() { x = 1a ) }", 15, api.ErrLexNumber}, {") ? # \"", 2, api.ErrLexByte},
		{strings.Repeat("(", 20001), 0, api.ErrLexLong}, {strings.Repeat(" ", 20001), 0, api.ErrLexLong}, {"func f() { return " + strings.Repeat("!", 50) + "a } #", 72, api.ErrLexByte},
	} {
		wantFault(t, c.src, c.at, c.e)
	}
	wantTree(t, strings.Repeat(" ", 20000), "File@0")
	wantTree(t, "func "+strings.Repeat("n", 30)+"() { }"+strings.Repeat("\n", 19959), "File@0(Func "+strings.Repeat("n", 30)+"@0(Block@38))")
}
