package check_test

import (
	"slices"
	"strconv"
	"strings"
	"testing"

	"drowse/api"
)

// operand is an expression and its type.
type operand struct{ text, of string }

// operands are variables of a main, each of another type, and nil and a call without a result.
func operands() []operand {
	return []operand{
		{"i", "int"}, {"b", "bool"}, {"m", "Mutex"}, {"g", "WaitGroup"}, {"c", "chan int"}, {"s", "chan<- int"}, {"r", "<-chan int"},
		{"cb", "chan bool"}, {"cc", "chan chan int"}, {"cr", "chan (<-chan int)"}, {"rr", "<-chan <-chan int"}, {"sm", "chan<- Mutex"}, {"nil", "nil"}, {"none()", ""},
	}
}

// declared is the statements by which the operands are there, and are used.
func declared() string {
	var s strings.Builder
	for _, o := range operands() {
		if o.of != "nil" && o.of != "" {
			s.WriteString("var " + o.text + " " + o.of + "; _ = " + o.text + "; ")
		}
	}
	return s.String()
}

// isRef: is nil a value of the type?
func isRef(of string) bool { return strings.Contains(of, "chan") || of == "Mutex" || of == "WaitGroup" }

// given: may what has the type from be one of the type to?
func given(from, to string) bool {
	switch {
	case to == "nil" || to == "":
		return false
	case from == to, from == "nil" && isRef(to):
		return true
	}
	switch from {
	case "chan int":
		return to == "chan<- int" || to == "<-chan int"
	case "chan (<-chan int)":
		return to == "<-chan <-chan int"
	}
	return false
}

func compared(a, b string) bool { return given(a, b) || given(b, a) }

// wantType: an expression whose own place is at the mark ^ has a type, or, if that is "wrong", is refused with ErrCheckType.
func wantType(t *testing.T, marked, of string) {
	t.Helper()
	wantTypeOr(t, marked, of, api.ErrCheckType)
}

func wantTypeOr(t *testing.T, marked, of string, e api.Errno) {
	t.Helper()
	plain := strings.Replace(marked, "^", "", 1)
	switch of {
	case "wrong":
		wantMarked(t, inMain(declared()+"_ = "+marked), e)
	case "":
		// It is no value, but it can be done.
		n := wantFine(t, inMain(declared()+plain))
		wantTypeOf(t, n, 0, of)
		wantMarked(t, inMain(declared()+"^_ = "+plain), api.ErrCheckType)
	default:
		n := wantFine(t, inMain(declared()+"_ = "+plain))
		wantTypeOf(t, n, 1, of)
	}
}

// wantTypeOf: a kid of main's last statement has a type.
func wantTypeOf(t *testing.T, file api.Node, kid int, of string) {
	t.Helper()
	if len(file.Kids) == 0 {
		return
	}
	l := file.Kids[0].Kids[0].Kids
	if e := l[len(l)-1].Kids[kid]; e.Type != of {
		t.Errorf("%s: the type is %q, not %q", textOf(file), e.Type, of)
	}
}

func TestPlainExpressions(t *testing.T) {
	wantType(t, "^1", "int")
	wantType(t, "^9223372036854775807", "int")
	wantType(t, "^true", "bool")
	wantType(t, "^false", "bool")
	wantType(t, "^(i)", "int")
	for _, o := range operands() {
		if o.of != "nil" && o.of != "" {
			wantType(t, "^"+o.text, o.of)
		}
	}
	wantIn(t, api.ErrCheckName, "_ = ^x", "_ = ^none", "_ = ^main", "_ = 1 + ^number", "x := 1; _ = x; _ = ^X")
}

func TestUnary(t *testing.T) {
	elements := map[string]string{"chan int": "int", "<-chan int": "int", "chan bool": "bool", "chan chan int": "chan int", "chan (<-chan int)": "<-chan int", "<-chan <-chan int": "<-chan int"}
	for _, o := range operands() {
		number, truth, elem := "wrong", "wrong", "wrong"
		if o.of == "int" {
			number = "int"
		}
		if o.of == "bool" {
			truth = "bool"
		}
		if e, ok := elements[o.of]; ok {
			elem = e
		}
		wantType(t, "^+"+o.text, number)
		wantType(t, "^-"+o.text, number)
		wantType(t, "^!"+o.text, truth)
		wantType(t, "^<-"+o.text, elem)
	}
	wantType(t, "^-(-i)", "int")
	wantType(t, "^<-<-cc", "int")
	wantType(t, "^-<-c", "int")
	wantType(t, "^-!b", "wrong")
	wantType(t, "-^!i", "wrong")
}

func TestBinary(t *testing.T) {
	for _, left := range operands() {
		for _, right := range operands() {
			pair := func(sign string) string { return left.text + " ^" + sign + " " + right.text }
			are := func(of string) bool { return left.of == of && right.of == of }
			pick := func(ok bool, of string) string {
				if ok {
					return of
				}
				return "wrong"
			}
			for _, sign := range []string{"||", "&&"} {
				wantType(t, pair(sign), pick(are("bool"), "bool"))
			}
			for _, sign := range []string{"==", "!="} {
				wantType(t, pair(sign), pick(compared(left.of, right.of), "bool"))
			}
			for _, sign := range []string{"<", "<=", ">", ">="} {
				wantType(t, pair(sign), pick(are("int"), "bool"))
			}
			for _, sign := range []string{"+", "-", "*", "/", "%"} {
				wantType(t, pair(sign), pick(are("int"), "int"))
			}
		}
	}
}

// TestGiven: what may be given to what, in each place in which something is.
func TestGiven(t *testing.T) {
	for _, from := range operands() {
		for _, to := range operands() {
			if to.of == "nil" || to.of == "" {
				continue
			}
			mark, e := "", api.OK
			if !given(from.of, to.of) {
				mark, e = "^", api.ErrCheckType
			}
			wantIn(t, e, declared()+mark+"var x "+to.of+" = "+from.text+"; _ = x", declared()+mark+to.text+" = "+from.text, declared()+"var x chan "+bracketed(to.of)+"; x "+mark+"<- "+from.text, declared()+"var x chan<- "+to.of+"; select { case x "+mark+"<- "+from.text+": }")
			wantMarked(t, "func f(a int, x "+to.of+") { }\nfunc main() { "+declared()+mark+"f(1, "+from.text+") }"+beside, e)
			wantMarked(t, "func main() { "+declared()+"go "+mark+"f("+from.text+", true) }\nfunc f(x "+to.of+", b bool) { }"+beside, e)
			wantMarked(t, "func main() { }\nfunc f() "+to.of+" { "+declared()+mark+"return "+from.text+" }"+beside, e)
			if from.of != "nil" && from.of != "" {
				wantIn(t, e, declared()+"for "+mark+to.text+" = range make(chan "+bracketed(from.of)+") { }", declared()+mark+to.text+", _ = <-make(chan "+bracketed(from.of)+")")
			}
			if mark, e = "^", api.ErrCheckType; compared(from.of, to.of) {
				mark, e = "", api.OK
			}
			wantIn(t, e, declared()+"switch "+to.text+" { "+mark+"case "+from.text+": }", declared()+"switch "+to.text+" { case "+to.text+": "+mark+"case "+to.text+", "+from.text+": default: }")
			if mark, e = "^", api.ErrCheckType; to.of == "bool" {
				mark, e = "", api.OK
			}
			wantIn(t, e, declared()+"switch { "+mark+"case "+to.text+": }", declared()+mark+"if "+to.text+" { }", declared()+mark+"for "+to.text+" { }", declared()+mark+"for ; "+to.text+"; { }", declared()+"_, "+mark+to.text+" = <-c")
		}
	}
}

// bracketed is a type's text, behind `chan`.
func bracketed(of string) string { return "(" + of + ")" }

func TestCalls(t *testing.T) {
	wantType(t, "^none()", "")
	wantType(t, "^main()", "")
	wantType(t, "^number()", "int")
	wantType(t, "^truth()", "bool")
	wantType(t, "^pair(number(), truth())", "int")
	wantType(t, "^well(nil)", "<-chan int")
	wantType(t, "^well(c)", "<-chan int")
	wantType(t, "^locked(m, g)", "Mutex")
	wantType(t, "^sink(r)", "wrong")
	wantType(t, "^pair(true, 1)", "wrong")
	wantType(t, "^pair(1, none())", "wrong")
	wantType(t, "^pair(1, nil)", "wrong")
	wantType(t, "^well(s)", "wrong")
	for _, call := range []string{"^none(1)", "^none(nil)", "^none(none())", "^number(1, 2)", "^pair()", "^pair(1)", "^pair(true)", "^pair(1, true, 2)", "^pair(1, true, 1, true)", "^locked(m)"} {
		wantTypeOr(t, call, "wrong", api.ErrCheckCount)
	}
	for _, call := range []string{"^other()", "^other(1)", "^f(i)", "other(^x)", "other(i, ^x)", "pair(^x, y)", "none(^x)", "^None()", "^i1()"} {
		wantTypeOr(t, call, "wrong", api.ErrCheckName)
	}
	// A variable's name calls nothing, whether there is such a function or not, whatever it is given.
	for _, call := range []string{"^i()", "^m(1)", "^i(1 == 1)", "^cb(nil)", "i(1 ^+ true)"} {
		wantType(t, call, "wrong")
	}
	wantTypeOr(t, "i(^x)", "wrong", api.ErrCheckName)
	wantIn(t, api.ErrCheckType, "none := 1; _ = none; ^none()", "pair := 1; _ = pair; ^pair()", "pair := 1; _ = ^pair(pair, true)", "if true { none := 1; _ = none; ^none(1) }", "main := 1; ^main(); _ = main", "for none := range make(chan int) { ^none(none) }")
	fineIn(t, "{ none := 1; _ = none }; none()", "if true { none := 1; _ = none } else { none() }", "none(); none := 1; _ = none", "number := number(); _ = number", "var pair int = pair(1, true); _ = pair")
	wantMarked(t, "func main() { }\nfunc f(f int) { _ = ^f() }", api.ErrCheckType)
	wantMarked(t, "func main() { }\nfunc f(g int) { _ = g }\nfunc g() { f(1); g() }", api.OK)
}

func TestWords(t *testing.T) {
	for _, o := range operands() {
		ofChan, ofSend := "wrong", "wrong"
		if strings.Contains(o.of, "chan") {
			ofChan = "int"
		}
		if strings.HasPrefix(o.of, "chan") {
			ofSend = ""
		}
		wantType(t, "^len("+o.text+")", ofChan)
		wantType(t, "^cap("+o.text+")", ofChan)
		wantType(t, "^close("+o.text+")", ofSend)
		ofPrint := "wrong"
		if o.of == "int" || o.of == "bool" {
			ofPrint = ""
		}
		wantType(t, "^println("+o.text+")", ofPrint)
		wantType(t, "^println(\"\", 1, "+o.text+", true)", ofPrint)
		wantTypeOr(t, "^yield("+o.text+")", "wrong", api.ErrCheckCount)
	}
	for _, call := range []string{"^len()", "^cap()", "^close()", "^len(c, c)", "^cap(1, 2)", "^close(c, nil)", "^yield(c, c)", "^len(none(), none())"} {
		wantTypeOr(t, call, "wrong", api.ErrCheckCount)
	}
	for _, call := range []string{"len(^x)", "cap(c, ^x)", "close(^x)", "yield(^x)", "println(\"a\", ^x)", "println(none(), ^x)", "println(nil, ^x, nil)", "yield(1, ^x)", "len(nil, ^x, y)"} {
		wantTypeOr(t, call, "wrong", api.ErrCheckName)
	}
	wantType(t, "^yield()", "")
	wantType(t, "^println()", "")
	wantType(t, "^println(\"a\", \"\")", "")
	wantType(t, "println(1 ^+ true, nil)", "wrong")
}

func TestMake(t *testing.T) {
	for _, o := range operands() {
		if o.of == "nil" || o.of == "" {
			continue
		}
		of := o.of
		if of == "int" || of == "bool" {
			of = "wrong"
		}
		wantType(t, "^make("+o.of+")", of)
		for _, size := range operands() {
			sized := "^make(" + o.of + ", " + size.text + ")"
			switch {
			case of == "wrong":
				wantType(t, sized, "wrong")
			case of == "Mutex" || of == "WaitGroup":
				wantTypeOr(t, sized, "wrong", api.ErrCheckCount)
			case size.of == "int":
				wantType(t, sized, of)
			default:
				wantType(t, sized, "wrong")
			}
		}
		wantTypeOr(t, "make("+o.of+", ^x)", "wrong", api.ErrCheckName)
		wantType(t, "make("+o.of+", 1 ^+ true)", "wrong")
	}
	wantType(t, "^make(chan int, -1)", "chan int")
	wantType(t, "^make(chan int, number() * 1000)", "chan int")
}

func TestMethods(t *testing.T) {
	for _, method := range []string{"Lock", "Unlock", "Add", "Done", "Wait"} {
		owner := "WaitGroup"
		if strings.HasSuffix(strings.ToLower(method), "lock") {
			owner = "Mutex"
		}
		for _, o := range operands() {
			// The type is asked ahead of the count.
			counts := slices.Repeat([]api.Errno{api.ErrCheckType}, 4)
			if o.of == owner && method == "Add" {
				counts = []api.Errno{api.ErrCheckCount, api.OK, api.ErrCheckCount, api.ErrCheckCount}
			} else if o.of == owner {
				counts = []api.Errno{api.OK, api.ErrCheckCount, api.ErrCheckCount, api.ErrCheckCount}
			}
			for i, args := range []string{"", "1", "1, 2", "nil, b, i"} {
				call := o.text + "^." + method + "(" + args + ")"
				if counts[i] == api.OK {
					wantType(t, call, "")
				} else {
					wantTypeOr(t, call, "wrong", counts[i])
				}
			}
		}
	}
	for _, o := range operands() {
		if o.of == "int" {
			wantType(t, "g^.Add("+o.text+")", "")
		} else {
			wantType(t, "g^.Add("+o.text+")", "wrong")
		}
	}
	wantType(t, "^make(Mutex).Lock()", "")
	wantType(t, "locked(m, g)^.Wait()", "wrong")
	wantType(t, "m.Lock()^.Lock()", "wrong")
	for _, call := range []string{"^x.Lock()", "m.Lock(^x)", "m.Add(^x)", "g.Add(1, ^x)", "i.Wait(^x)"} {
		wantTypeOr(t, call, "wrong", api.ErrCheckName)
	}
	wantType(t, "g.Add(1 ^+ true, 2)", "wrong")
}

// TestKidsFirst: from the left, and ahead of their own expression.
func TestKidsFirst(t *testing.T) {
	wantIn(t, api.ErrCheckName, "_ = ^x + y", "_ = 1 + ^x", "_ = true + ^x", "_ = (true == ^x) + (1 + true)", "_ = -^x", "_ = pair(^x, y)", "_ = pair(nil, ^y)", "_ = ^x.Lock(y)", "_ = make(int, ^x)", "_ = <-^x", "println(^x, y + true)", "f(f(^x))", "_ = ^f(1) + x")
	wantIn(t, api.ErrCheckType, "_ = (1 ^+ true) + x", "_ = pair(1 ^+ true, x)", "_ = (true ^+ 1) + (true + 1)", "_ = true ^+ (1 + 1)", "none(^!1)", "_ = pair(true ^< 1, none(1))")
	wantIn(t, api.ErrCheckCount, "_ = pair(^none(1), x)", "_ = pair(1, ^none(1)) + x", "_ = ^none(1) + none(2)")
}

// lot is so many of one, with commas between.
func lot(of string, count int) string {
	return strings.TrimSuffix(strings.Repeat(of+", ", count), ", ")
}

func TestManyItems(t *testing.T) {
	fineIn(t, "println("+lot("1", 19)+")", "println("+lot("1", 20)+")", "println("+lot("\"a\"", 20)+")")
	wantIn(t, api.ErrCheckMany, "^println("+lot("1", 21)+")", "^println("+lot("\"\"", 21)+")", "^println("+lot("nil", 21)+")", "^println("+lot("1", 20)+", nil)", "if true { ^println("+lot("true", 100)+") }")
	wantIn(t, api.ErrCheckType, "^println("+lot("1", 19)+", nil)", "^println("+lot("nil", 20)+")", "println("+lot("1", 20)+", 1 ^+ true)")
	wantIn(t, api.ErrCheckName, "println("+lot("1", 20)+", ^x)")
	// No other call has that bound.
	for count := range 30 {
		wantIn(t, api.ErrCheckCount, "^pair(1, true, true"+strings.Repeat(", "+strconv.Itoa(count), count)+")")
	}
}
