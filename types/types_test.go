package types_test

import (
	"math"
	"strings"
	"testing"

	"drowse/api"
	"drowse/types"
)

// kind is a type as it is meant: a base, or a channel of a direction and an element. The model of these tests is made of kinds, not of texts that are read.
type kind struct {
	base string
	dir  int
	elem *kind
}

func base(name string) *kind { return &kind{base: name} }

func channel(dir int, elem *kind) *kind { return &kind{dir: dir, elem: elem} }

// layers is the base with a channel around it for each dir, the last one outermost.
func layers(name string, dirs ...int) *kind {
	k := base(name)
	for _, dir := range dirs {
		k = channel(dir, k)
	}
	return k
}

// text writes a kind as the chapter's section 'Words' says.
func (k *kind) text() string {
	if k.elem == nil {
		return k.base
	}
	inner := k.elem.text()
	switch k.dir {
	case 1:
		return "chan<- " + inner
	case 2:
		return "<-chan " + inner
	}
	if k.elem.elem != nil && k.elem.dir == 2 {
		return "chan (" + inner + ")"
	}
	return "chan " + inner
}

func (k *kind) depth() int {
	if k.elem == nil {
		return 0
	}
	return 1 + k.elem.depth()
}

func bases() []string { return []string{"int", "bool", "Mutex", "WaitGroup"} }

// kinds are all types of these bases with at most that many channels.
func kinds(names []string, depth int) []*kind {
	var all, last []*kind
	for _, name := range names {
		last = append(last, base(name))
	}
	all = append(all, last...)
	for range depth {
		var next []*kind
		for _, k := range last {
			for dir := range 3 {
				next = append(next, channel(dir, k))
			}
		}
		all = append(all, next...)
		last = next
	}
	return all
}

// byText is the kinds by their texts; no two have the same one.
func byText(t *testing.T, l []*kind) map[string]*kind {
	t.Helper()
	m := map[string]*kind{}
	for _, k := range l {
		s := k.text()
		if m[s] != nil {
			t.Fatalf("the model is wrong: two kinds are %q", s)
		}
		m[s] = k
	}
	return m
}

// dirs are n directions, taken from those given, again and again.
func dirs(n int, of ...int) []int {
	l := make([]int, n)
	for i := range l {
		l[i] = of[i%len(of)]
	}
	return l
}

// patterns are ways in which channels follow one another, brackets among them.
func patterns() [][]int {
	return [][]int{{0}, {1}, {2}, {0, 1}, {0, 2}, {2, 0}, {1, 2}, {0, 1, 2}, {2, 1, 0}, {2, 0, 0}, {0, 2, 2}, {1, 0, 2, 0}}
}

// wrong are texts that are no type's, of all sorts.
func wrong() []string {
	l := []string{
		"", "nil", " ", "(", ")", "()", "<-", "chan", "chan ", "chan<-", "chan<- ", "<-chan", "<-chan ", "chan (", "chan ()", "chan (<-", "chan (<-chan )",
		"Int", "INT", "integer", "in", "intt", "int64", "int8", "uint", "boolean", "Bool", "mutex", "MUTEX", "Waitgroup", "waitGroup", "waitgroup", "Wait Group", "WaitGroups",
		"string", "float64", "error", "any", "true", "0", "x", "_", "func", "func()", "*int", "[]int", "*Mutex", "sync.Mutex", "map[int]int", "struct{}", "Chan int", "CHAN int",
		"chan nil", "chan<- nil", "<-chan nil", "chan chan nil", "chan (<-chan nil)", "chan x", "chan<- x", "<-chan x", "chan (nil)",
		" int", "int ", "  int", "\tint", "int\n", "int;", "int int", "int bool", "int,int", "int)", "(int", "(int)", "((int))", "( int )",
		"chan  int", "chan\tint", "chan\nint", "chan\u00a0int", "chan\x00int", "chan int ", " chan int", "chanint", "chan_int", "chan.int", "chan int int", "chan int chan int", "int chan",
		"chan<-int", "chan<-  int", "chan <- int", "chan <-int", "chan< - int", "chan< int", "chan- int", "chan-> int", "chan<-- int", "chan<<- int", "chan<- int ", "chan->int",
		"<-chanint", "<-chan  int", "<- chan int", "< -chan int", "-chan int", "<chan int", "->chan int", "<-<-chan int", "<-chan<- int", "<-chan <- int", "<-int", "<- int", "<-chan int ", " <-chan int",
		"chan (int)", "chan<- (int)", "<-chan (int)", "chan(int)", "(chan int)", "(chan<- int)", "(<-chan int)", "chan (chan int)", "chan (chan<- int)", "chan<- (chan int)", "chan<- (<-chan int)", "<-chan (chan int)", "<-chan (<-chan int)", "chan<- (chan<- int)", "<-chan (chan<- int)",
		"chan <-chan int", "chan <-chan<- int", "chan(<-chan int)", "chan  (<-chan int)", "chan (<-chan int", "chan <-chan int)", "chan (<-chan int))", "chan ((<-chan int)", "chan ((<-chan int))", "chan ( <-chan int)", "chan (<-chan int )", "chan (<-chan int) ", "chan (<-chan int)int", "chan (<-chan int) int", "chan (<-chan) int", "chan (<-)chan int", "chan [<-chan int]", "chan {<-chan int}", "chan )<-chan int(", "chan (<-chan int)chan", "chan (<- chan int)",
		"chan chan <-chan int", "chan chan (chan int)", "chan chan (<-chan int", "chan chan (<-chan int))", "chan (chan (<-chan int))", "chan (chan <-chan int)", "chan (<-chan <-chan int", "chan (<-chan (<-chan int))", "chan (<-chan chan (<-chan int)", "chan (<-chan chan <-chan int)", "chan (<-chan chan (<-chan int)))", "chan<- chan <-chan int", "<-chan chan <-chan int",
		"chan, int", "chan int, int", "chan (int, int)", "chan (<-chan int, <-chan int)", "\xff", "chan \xff", "\xffint", "int\xff", "ïnt", "chan ïnt", "int\x00", "\x00", "\ufeffint",
	}
	return l
}

// tooDeep are texts of 41 channels and more, each right but for that.
func tooDeep() []string {
	var l []string
	for _, pattern := range patterns() {
		for _, n := range []int{41, 42, 80, 400} {
			l = append(l, layers("int", dirs(n, pattern...)...).text())
		}
	}
	return l
}

// veryLong are texts of a million bytes and more.
func veryLong() []string {
	const n = 1 << 20
	return []string{
		strings.Repeat("chan ", n) + "int",
		strings.Repeat("chan<- ", n) + "int",
		strings.Repeat("<-chan ", n) + "int",
		strings.Repeat("chan (<-chan ", n) + "int" + strings.Repeat(")", n),
		strings.Repeat("chan (<-", n),
		strings.Repeat("chan (", n) + "int" + strings.Repeat(")", n),
		strings.Repeat("chan", n),
		strings.Repeat("(", n),
		strings.Repeat("(", n) + "int" + strings.Repeat(")", n),
		strings.Repeat("int", n),
		strings.Repeat(" ", n) + "int",
		"int" + strings.Repeat(" ", n),
		"chan " + strings.Repeat("x", n),
		"chan (<-chan " + strings.Repeat("x", n) + ")",
		"chan (<-chan int" + strings.Repeat(")", n),
		strings.Repeat("\x00", n),
		"chan" + strings.Repeat(" ", n) + "int",
	}
}

func short(s string) string {
	if len(s) > 80 {
		return s[:80] + "..."
	}
	return s
}

// wantKind holds all that Y1 and Y2 say of one text against the kind that it is meant to be.
func wantKind(t *testing.T, s string, k *kind) {
	t.Helper()
	isChan := k.elem != nil
	dir, elem := 0, ""
	if isChan {
		dir, elem = k.dir, k.elem.text()
	}
	if !types.Right(s) {
		t.Errorf("Right %q: false", s)
	}
	if d, e, ok := types.Split(s); d != dir || e != elem || ok != isChan {
		t.Errorf("Split %q: %d, %q, %v; want %d, %q, %v", s, d, e, ok, dir, elem, isChan)
	}
	if got := types.Depth(s); got != k.depth() {
		t.Errorf("Depth %q: %d, want %d", s, got, k.depth())
	}
	if got := types.Sends(s); got != (isChan && dir != 2) {
		t.Errorf("Sends %q: %v", s, got)
	}
	if got := types.Receives(s); got != (isChan && dir != 1) {
		t.Errorf("Receives %q: %v", s, got)
	}
}

// wantNothing says that a text is no type's, whichever call is asked.
func wantNothing(t *testing.T, s string) {
	t.Helper()
	if types.Right(s) {
		t.Errorf("Right %q: true", short(s))
	}
	if d, e, ok := types.Split(s); d != 0 || e != "" || ok {
		t.Errorf("Split %q: %d, %q, %v", short(s), d, short(e), ok)
	}
	if got := types.Depth(s); got != 0 {
		t.Errorf("Depth %q: %d", short(s), got)
	}
	if types.Sends(s) || types.Receives(s) {
		t.Errorf("Sends, Receives %q: %v, %v", short(s), types.Sends(s), types.Receives(s))
	}
	for dir := range 3 {
		wantChan(t, dir, s, "", api.ErrTypesForm)
	}
}

// wantModel holds a text against the model: it is one of those kinds, or no type's.
func wantModel(t *testing.T, s string, model map[string]*kind) {
	t.Helper()
	if k := model[s]; k != nil {
		wantKind(t, s, k)
	} else {
		wantNothing(t, s)
	}
}

func wantChan(t *testing.T, dir int, elem, s string, e api.Errno) {
	t.Helper()
	gotS, gotE := types.Chan(dir, elem)
	if gotS != s || gotE != e {
		t.Errorf("Chan %d %q: %q, %d; want %q, %d", dir, short(elem), short(gotS), gotE, short(s), e)
	}
}

// --- Y1: texts ---

func TestRightTableOfTheChapter(t *testing.T) {
	for _, x := range []struct {
		s    string
		want bool
	}{{"chan (<-chan int)", true}, {"chan <-chan int", false}, {"chan<- <-chan int", true}, {"chan  int", false}, {"chan", false}} {
		if got := types.Right(x.s); got != x.want {
			t.Errorf("Right %q: %v", x.s, got)
		}
	}
}

func TestBaseTypes(t *testing.T) {
	for _, s := range bases() {
		wantKind(t, s, base(s))
	}
}

// TestChannelsWrittenOut does not lean on the model's writer.
func TestChannelsWrittenOut(t *testing.T) {
	for _, x := range []struct {
		s     string
		dir   int
		elem  string
		depth int
	}{
		{"chan int", 0, "int", 1}, {"chan<- int", 1, "int", 1}, {"<-chan int", 2, "int", 1},
		{"chan bool", 0, "bool", 1}, {"chan<- Mutex", 1, "Mutex", 1}, {"<-chan WaitGroup", 2, "WaitGroup", 1},
		{"chan chan int", 0, "chan int", 2}, {"chan chan<- int", 0, "chan<- int", 2}, {"chan (<-chan int)", 0, "<-chan int", 2},
		{"chan<- chan int", 1, "chan int", 2}, {"chan<- chan<- int", 1, "chan<- int", 2}, {"chan<- <-chan int", 1, "<-chan int", 2},
		{"<-chan chan int", 2, "chan int", 2}, {"<-chan chan<- int", 2, "chan<- int", 2}, {"<-chan <-chan int", 2, "<-chan int", 2},
		{"chan (<-chan <-chan int)", 0, "<-chan <-chan int", 3}, {"chan (<-chan chan int)", 0, "<-chan chan int", 3}, {"chan chan (<-chan int)", 0, "chan (<-chan int)", 3},
		{"<-chan chan (<-chan int)", 2, "chan (<-chan int)", 3}, {"chan<- chan (<-chan int)", 1, "chan (<-chan int)", 3},
		{"chan (<-chan chan (<-chan int))", 0, "<-chan chan (<-chan int)", 4},
	} {
		if dir, elem, ok := types.Split(x.s); dir != x.dir || elem != x.elem || !ok {
			t.Errorf("Split %q: %d, %q, %v", x.s, dir, elem, ok)
		}
		if !types.Right(x.s) || types.Depth(x.s) != x.depth {
			t.Errorf("%q: Right %v, Depth %d", x.s, types.Right(x.s), types.Depth(x.s))
		}
		wantChan(t, x.dir, x.elem, x.s, api.OK)
	}
}

func TestAllTypesOfSomeDepth(t *testing.T) {
	for s, k := range byText(t, kinds(bases(), 6)) {
		wantKind(t, s, k)
	}
}

func TestWrongTexts(t *testing.T) {
	for _, s := range wrong() {
		wantNothing(t, s)
	}
}

// TestAllTextsOfFewPieces puts pieces of types together in every way: just those are right that the model writes.
func TestAllTextsOfFewPieces(t *testing.T) {
	pieces := []string{"chan ", "chan<- ", "<-chan ", "chan", "<-", " ", "(", ")", "int", "Mutex"}
	const most = 5
	model := byText(t, kinds([]string{"int", "Mutex"}, most))
	found := 0
	var build func(s string, left int)
	build = func(s string, left int) {
		wantModel(t, s, model)
		if model[s] != nil {
			found++
		}
		if left > 0 {
			for _, piece := range pieces {
				build(s+piece, left-1)
			}
		}
	}
	build("", most)
	if found < 100 {
		t.Errorf("only %d of these texts are types'", found)
	}
}

// TestOneByteOff takes away, doubles, puts in and changes each byte of right texts.
func TestOneByteOff(t *testing.T) {
	model := byText(t, kinds(bases(), 3))
	for s := range byText(t, kinds([]string{"int", "WaitGroup"}, 2)) {
		for i := range len(s) {
			wantModel(t, s[:i]+s[i+1:], model)
			wantModel(t, s[:i]+s[i:i+1]+s[i:], model)
			for c := range 256 {
				wantModel(t, s[:i]+string([]byte{byte(c)})+s[i+1:], model)
				wantModel(t, s[:i]+string([]byte{byte(c)})+s[i:], model)
			}
		}
		for c := range 256 {
			wantModel(t, s+string([]byte{byte(c)}), model)
		}
	}
}

func TestCutShortAndLengthened(t *testing.T) {
	all := kinds(bases(), 3)
	model := byText(t, all)
	for _, k := range all {
		s := k.text()
		for i := range len(s) {
			wantNothing(t, s[:i])
			wantModel(t, s[i:], model)
		}
		for _, behind := range []string{" ", "\n", ")", "(", "<-", "chan", " chan", " int", "int", ";", "\x00", "nil"} {
			wantNothing(t, s+behind)
		}
		for _, ahead := range []string{" ", "\n", ")", "(", "<-", "chan", "chan<-", "nil "} {
			wantModel(t, ahead+s, model)
		}
		wantNothing(t, "("+s+")")
		wantNothing(t, "<-chan ("+s+")")
		wantNothing(t, "chan<- ("+s+")")
		if strings.HasPrefix(s, "<-") {
			wantNothing(t, "chan "+s)
			wantNothing(t, "chan (("+s+"))")
		} else {
			wantNothing(t, "chan ("+s+")")
		}
	}
}

func TestFortyChannels(t *testing.T) {
	for _, pattern := range patterns() {
		for _, name := range bases() {
			for _, n := range []int{38, 39, 40} {
				k := layers(name, dirs(n, pattern...)...)
				wantKind(t, k.text(), k)
			}
		}
	}
}

func TestFortyOneChannels(t *testing.T) {
	for _, s := range tooDeep() {
		wantNothing(t, s)
	}
	forty := strings.Repeat("chan ", 40) + "int"
	if !types.Right(forty) || types.Depth(forty) != 40 {
		t.Errorf("forty: Right %v, Depth %d", types.Right(forty), types.Depth(forty))
	}
	wantNothing(t, "chan "+forty)
	wantNothing(t, "chan<- "+forty)
	wantNothing(t, "<-chan "+forty)
	// No deeper than allowed, but wrong at the very bottom.
	wantNothing(t, strings.Repeat("chan ", 40)+"nil")
	wantNothing(t, strings.Repeat("chan ", 40))
}

func TestVeryLong(t *testing.T) {
	for _, s := range veryLong() {
		wantNothing(t, s)
		if types.Assignable(s, s) || types.Assignable("nil", s) || types.Compares(s, "int") {
			t.Errorf("Assignable, Compares %q: true", short(s))
		}
		wantChan(t, 3, s, "", api.ErrArg)
	}
}

func TestChanTableOfTheChapter(t *testing.T) {
	wantChan(t, 0, "<-chan int", "chan (<-chan int)", api.OK)
	wantChan(t, 1, "chan int", "chan<- chan int", api.OK)
	wantChan(t, 3, "int", "", api.ErrArg)
	wantChan(t, 0, "nil", "", api.ErrTypesForm)
}

func TestChanOfEveryElement(t *testing.T) {
	for _, k := range kinds(bases(), 4) {
		for dir := range 3 {
			wantChan(t, dir, k.text(), channel(dir, k).text(), api.OK)
		}
	}
}

func TestChanDirections(t *testing.T) {
	for dir, want := range []string{"chan int", "chan<- int", "<-chan int"} {
		wantChan(t, dir, "int", want, api.OK)
	}
	// A wrong direction is told first, whatever the element is.
	elems := append([]string{"int", "<-chan int", strings.Repeat("chan ", 40) + "int"}, wrong()...)
	for _, dir := range []int{-1, 3, 4, -2, 256, 1 << 32, math.MaxInt, math.MinInt} {
		for _, elem := range elems {
			wantChan(t, dir, elem, "", api.ErrArg)
		}
	}
}

func TestChanOfTheDeepest(t *testing.T) {
	for _, pattern := range patterns() {
		thirtyNine := layers("bool", dirs(39, pattern...)...)
		forty := layers("bool", dirs(40, pattern...)...)
		for dir := range 3 {
			wantChan(t, dir, thirtyNine.text(), channel(dir, thirtyNine).text(), api.OK)
			wantChan(t, dir, forty.text(), "", api.ErrTypesForm)
		}
	}
}

// --- Y2: who sends, receives, is assigned, is compared ---

func TestSendsReceivesWrittenOut(t *testing.T) {
	for _, x := range []struct {
		s               string
		sends, receives bool
	}{
		{"chan int", true, true}, {"chan<- int", true, false}, {"<-chan int", false, true},
		{"chan (<-chan int)", true, true}, {"chan<- <-chan int", true, false}, {"<-chan chan<- int", false, true}, {"<-chan <-chan int", false, true},
		{"int", false, false}, {"bool", false, false}, {"Mutex", false, false}, {"WaitGroup", false, false}, {"nil", false, false}, {"", false, false},
		{"chan <-chan int", false, false}, {"chan", false, false}, {"chan nil", false, false}, {"chan<- x", false, false}, {"<-chan x", false, false},
	} {
		if sends, receives := types.Sends(x.s), types.Receives(x.s); sends != x.sends || receives != x.receives {
			t.Errorf("Sends, Receives %q: %v, %v", x.s, sends, receives)
		}
	}
}

func TestAssignableTableOfTheChapter(t *testing.T) {
	for _, x := range []struct {
		from, to string
		want     bool
	}{{"chan int", "<-chan int", true}, {"<-chan int", "chan int", false}, {"nil", "int", false}, {"chan chan int", "chan (<-chan int)", false}} {
		if got := types.Assignable(x.from, x.to); got != x.want {
			t.Errorf("Assignable %q, %q: %v", x.from, x.to, got)
		}
	}
}

func TestComparesTableOfTheChapter(t *testing.T) {
	for _, x := range []struct {
		a, b string
		want bool
	}{{"nil", "nil", false}, {"chan<- int", "chan int", true}, {"int", "int", true}} {
		if got := types.Compares(x.a, x.b); got != x.want {
			t.Errorf("Compares %q, %q: %v", x.a, x.b, got)
		}
	}
}

// assignable is Y2's sentence over kinds; nil stands for a text that is no type's.
func assignable(fromText string, from, to *kind) bool {
	switch {
	case to == nil:
		return false
	case fromText == "nil":
		return to.elem != nil || to.base == "Mutex" || to.base == "WaitGroup"
	case from == nil:
		return false
	case from.text() == to.text():
		return true
	}
	return from.elem != nil && from.dir == 0 && to.elem != nil && from.elem.text() == to.elem.text()
}

// TestAssignableOfAllPairs takes every pair of types of a small depth, of `nil`, of the empty text and of wrong texts.
func TestAssignableOfAllPairs(t *testing.T) {
	model := byText(t, kinds(bases(), 2))
	texts := wrong()
	for s := range model {
		texts = append(texts, s)
	}
	for _, a := range texts {
		for _, b := range texts {
			one, other := assignable(a, model[a], model[b]), assignable(b, model[b], model[a])
			if got := types.Assignable(a, b); got != one {
				t.Errorf("Assignable %q, %q: %v", a, b, got)
			}
			if got := types.Compares(a, b); got != (one || other) {
				t.Errorf("Compares %q, %q: %v", a, b, got)
			}
		}
	}
}

func TestAssignableWrittenOut(t *testing.T) {
	for _, x := range []struct {
		from, to    string
		there, back bool
	}{
		{"chan int", "chan int", true, true}, {"chan int", "chan<- int", true, false}, {"chan int", "<-chan int", true, false},
		{"chan<- int", "<-chan int", false, false}, {"chan<- int", "chan<- int", true, true}, {"<-chan int", "<-chan int", true, true},
		{"chan int", "chan bool", false, false}, {"chan int", "<-chan bool", false, false}, {"chan int", "int", false, false}, {"chan Mutex", "Mutex", false, false},
		{"nil", "chan int", true, false}, {"nil", "chan<- int", true, false}, {"nil", "<-chan int", true, false}, {"nil", "chan (<-chan int)", true, false},
		{"nil", "Mutex", true, false}, {"nil", "WaitGroup", true, false}, {"nil", "int", false, false}, {"nil", "bool", false, false}, {"nil", "nil", false, false}, {"nil", "", false, false},
		{"Mutex", "Mutex", true, true}, {"Mutex", "WaitGroup", false, false}, {"int", "bool", false, false}, {"bool", "bool", true, true},
		// Only the outer channel's direction gives way.
		{"chan chan int", "<-chan chan int", true, false}, {"chan chan int", "chan<- chan int", true, false}, {"chan chan int", "<-chan <-chan int", false, false}, {"chan chan int", "chan chan<- int", false, false},
		{"chan (<-chan int)", "<-chan <-chan int", true, false}, {"chan (<-chan int)", "chan<- <-chan int", true, false}, {"chan (<-chan int)", "chan chan int", false, false},
		// The same text is not enough: it must be a type's.
		{"", "", false, false}, {"x", "x", false, false}, {"chan nil", "chan nil", false, false}, {"chan x", "<-chan x", false, false}, {"nil", "chan nil", false, false}, {"nil", "mutex", false, false},
		{"chan <-chan int", "chan <-chan int", false, false}, {"chan  int", "chan int", false, false}, {"chan (int)", "<-chan int", false, false},
	} {
		if there, back := types.Assignable(x.from, x.to), types.Assignable(x.to, x.from); there != x.there || back != x.back {
			t.Errorf("Assignable %q, %q: %v, and the other way %v", x.from, x.to, there, back)
		}
		if types.Compares(x.from, x.to) != (x.there || x.back) || types.Compares(x.to, x.from) != (x.there || x.back) {
			t.Errorf("Compares %q, %q: %v, and the other way %v", x.from, x.to, types.Compares(x.from, x.to), types.Compares(x.to, x.from))
		}
	}
}

func TestAssignableAtTheDeepest(t *testing.T) {
	for _, pattern := range patterns() {
		elem := layers("int", dirs(39, pattern...)...)
		all, send, receive := channel(0, elem).text(), channel(1, elem).text(), channel(2, elem).text()
		if !types.Assignable(all, all) || !types.Assignable(all, send) || !types.Assignable(all, receive) || !types.Assignable("nil", all) {
			t.Errorf("forty channels: not assignable: %q", short(all))
		}
		if types.Assignable(send, all) || types.Assignable(receive, all) || types.Assignable(send, receive) || types.Assignable(receive, send) {
			t.Errorf("forty channels: assignable: %q", short(all))
		}
		elem = channel(0, elem)
		all, receive = channel(0, elem).text(), channel(2, elem).text()
		if types.Assignable(all, all) || types.Assignable(all, receive) || types.Assignable("nil", all) || types.Compares(all, all) || types.Compares(all, "nil") || types.Compares(all, receive) {
			t.Errorf("forty-one channels: assignable: %q", short(all))
		}
	}
}

// --- P4.2: the way back ---

func TestSplitOfChan(t *testing.T) {
	elems := kinds(bases(), 5)
	for _, pattern := range patterns() {
		elems = append(elems, layers("Mutex", dirs(39, pattern...)...))
	}
	for _, elem := range elems {
		for dir := range 3 {
			s, e := types.Chan(dir, elem.text())
			if e != api.OK || !types.Right(s) || types.Depth(s) != types.Depth(elem.text())+1 {
				t.Errorf("Chan %d %q: %q, %d", dir, elem.text(), s, e)
			}
			if d, back, ok := types.Split(s); d != dir || back != elem.text() || !ok {
				t.Errorf("Split of Chan %d %q: %d, %q, %v", dir, elem.text(), d, back, ok)
			}
		}
	}
}

func TestChanOfSplit(t *testing.T) {
	all := kinds(bases(), 5)
	for _, pattern := range patterns() {
		all = append(all, layers("WaitGroup", dirs(40, pattern...)...))
	}
	for _, k := range all {
		dir, elem, ok := types.Split(k.text())
		if ok != (k.elem != nil) {
			t.Errorf("Split %q: %v", k.text(), ok)
		}
		if ok {
			wantChan(t, dir, elem, k.text(), api.OK)
		}
	}
}

// TestWayDown takes the channels off one by one, to the base.
func TestWayDown(t *testing.T) {
	for _, pattern := range patterns() {
		k := layers("bool", dirs(40, pattern...)...)
		s := k.text()
		for left := 40; left > 0; left-- {
			if types.Depth(s) != left {
				t.Fatalf("Depth %q: %d, want %d", short(s), types.Depth(s), left)
			}
			dir, elem, ok := types.Split(s)
			if dir != k.dir || !ok {
				t.Fatalf("Split %q: %d, %v", short(s), dir, ok)
			}
			s, k = elem, k.elem
		}
		if s != "bool" {
			t.Errorf("the base is %q", s)
		}
	}
}

func TestNotTwoDirectionsAtOnce(t *testing.T) {
	for _, elem := range kinds(bases(), 4) {
		all, send, receive := channel(0, elem).text(), channel(1, elem).text(), channel(2, elem).text()
		if types.Assignable(send, receive) || types.Assignable(receive, send) || types.Compares(send, receive) || types.Compares(receive, send) {
			t.Errorf("%q and %q: one is assignable", send, receive)
		}
		for _, one := range []string{send, receive} {
			if !types.Assignable(all, one) || types.Assignable(one, all) || !types.Compares(all, one) || !types.Compares(one, all) {
				t.Errorf("%q and %q", all, one)
			}
		}
	}
}
