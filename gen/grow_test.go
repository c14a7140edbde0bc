package gen_test

import (
	"math/rand"
	"strconv"
	"strings"
)

// known is a variable or a function as a grower knows it.
type known struct {
	text, of string
	params   []string
}

// grower grows sources that are accepted: it keeps what is seen, and puts in what is of the type that is asked for. The greater its risk, the more often something is done that may park or end the run.
type grower struct {
	r             *rand.Rand
	risk          int // of 100
	room          int
	depth         int
	names         int
	funcs         []known
	scopes        [][]known
	result        string
	loops, others int
}

func (g *grower) chance(of int) bool { return g.r.Intn(of) == 0 }

func (g *grower) risky() bool { return g.r.Intn(100) < g.risk }

func pickOf[T any](g *grower, l ...T) T { return l[g.r.Intn(len(l))] }

// tight tells whether no more is to be put below.
func (g *grower) tight() bool {
	g.room--
	return g.room < 0 || g.depth > 12
}

func (g *grower) typeText() string {
	return pickOf(g, "int", "int", "bool", "Mutex", "WaitGroup", "chan int", "chan int", "chan bool", "chan Mutex", "chan chan int", "chan chan int")
}

func (g *grower) channel() string {
	return pickOf(g, "chan int", "chan bool", "chan Mutex", "chan chan int")
}

func element(channel string) string { return strings.TrimPrefix(channel, "chan ") }

// variable is a variable of a type that is seen.
func (g *grower) variable(of string) (string, bool) {
	var l []string
	for _, scope := range g.scopes {
		for _, k := range scope {
			if k.of == of {
				l = append(l, k.text)
			}
		}
	}
	if len(l) == 0 {
		return "", false
	}
	return pickOf(g, l...), true
}

func (g *grower) declare(of string) string {
	g.names++
	k := known{text: "v" + strconv.Itoa(g.names), of: of}
	top := len(g.scopes) - 1
	g.scopes[top] = append(g.scopes[top], k)
	return k.text
}

func (g *grower) functionOf(of string) (known, bool) {
	var l []known
	for _, f := range g.funcs {
		if f.of == of {
			l = append(l, f)
		}
	}
	if len(l) == 0 {
		return known{}, false
	}
	return pickOf(g, l...), true
}

func (g *grower) call(f known) string {
	var l []string
	for _, of := range f.params {
		l = append(l, g.expr(of))
	}
	return f.text + "(" + strings.Join(l, ", ") + ")"
}

// expr is an expression of a type, in brackets where it needs them.
func (g *grower) expr(of string) string {
	g.depth++
	defer func() { g.depth-- }()
	if x, ok := g.variable(of); ok && (!g.chance(3) || g.tight()) {
		return x
	}
	if g.tight() {
		return g.least(of)
	}
	if f, ok := g.functionOf(of); ok && g.chance(5) {
		return g.call(f)
	}
	if g.risky() && g.chance(4) && strings.Count(of, "chan") < 2 {
		if of == "int" || of == "bool" || of == "Mutex" || of == "chan int" {
			return "(<-" + g.expr("chan "+of) + ")"
		}
	}
	switch of {
	case "int":
		return g.number()
	case "bool":
		return g.truth()
	}
	return g.least(of)
}

// least is an expression of a type without others in it.
func (g *grower) least(of string) string {
	switch {
	case of == "int":
		return strconv.Itoa(g.r.Intn(4))
	case of == "bool":
		return pickOf(g, "true", "false")
	case g.chance(60):
		return nilOf(of)
	case strings.HasPrefix(of, "chan") && !g.chance(4):
		return "make(" + of + ", " + strconv.Itoa(1+g.r.Intn(3)) + ")"
	}
	return "make(" + of + ")"
}

// nilOf is an expression of a type that is nothing, with a type of its own.
func nilOf(of string) string {
	return "nil" + strings.NewReplacer(" ", "", "chan", "C").Replace(of) + "()"
}

func (g *grower) number() string {
	switch g.r.Intn(7) {
	case 0:
		return "(" + pickOf(g, "-", "+") + g.expr("int") + ")"
	case 1, 2:
		return "(" + g.expr("int") + pickOf(g, " + ", " - ", " * ") + g.expr("int") + ")"
	case 3:
		by := strconv.Itoa(2 + g.r.Intn(3))
		if g.risky() {
			by = g.expr("int")
		}
		return "(" + g.expr("int") + pickOf(g, " / ", " % ") + by + ")"
	case 4:
		return pickOf(g, "len", "cap") + "(" + g.expr(g.channel()) + ")"
	}
	return g.least("int")
}

func (g *grower) truth() string {
	switch g.r.Intn(5) {
	case 0:
		return "(!" + g.expr("bool") + ")"
	case 1:
		return "(" + g.expr("bool") + pickOf(g, " && ", " || ") + g.expr("bool") + ")"
	case 2:
		return "(" + g.expr("int") + pickOf(g, " < ", " <= ", " > ", " >= ", " == ", " != ") + g.expr("int") + ")"
	case 3:
		of := g.typeText()
		other := g.expr(of)
		if of != "int" && of != "bool" && g.chance(2) {
			other = "nil"
		}
		return "(" + g.expr(of) + pickOf(g, " == ", " != ") + other + ")"
	}
	return g.least("bool")
}

// scoped is what stands in a scope.
func (g *grower) scoped(inside func() string) string {
	g.scopes = append(g.scopes, nil)
	defer func() { g.scopes = g.scopes[:len(g.scopes)-1] }()
	return inside()
}

func (g *grower) block() string {
	return "{\n" + g.scoped(g.statements) + "}"
}

func (g *grower) statements() string {
	s := ""
	for range 1 + g.r.Intn(5) {
		if g.tight() {
			break
		}
		g.depth++
		s += g.statement() + "\n"
		g.depth--
	}
	return s
}

func (g *grower) statement() string {
	switch g.r.Intn(17) {
	case 0, 1, 2:
		return g.declaration()
	case 3, 4:
		return g.assignment()
	case 5:
		return g.block()
	case 6:
		return g.choice()
	case 7, 8:
		return g.loop()
	case 9:
		return g.switching()
	case 10, 11:
		return g.selecting()
	case 12:
		return g.leaving()
	case 13, 14:
		return g.communication()
	}
	return g.doing()
}

// used is statements that use variables, so that they may be declared.
func used(l ...string) string {
	s := ""
	for _, x := range l {
		s += "_ = " + x + "\n"
	}
	return s
}

func (g *grower) declaration() string {
	of := g.typeText()
	switch g.r.Intn(3) {
	case 0:
		e := g.expr(of)
		x := g.declare(of)
		return x + " := " + e + "\n" + used(x)
	case 1:
		x := g.declare(of)
		return "var " + x + " " + of + "\n" + used(x)
	}
	e := g.expr(of)
	if of != "int" && of != "bool" && g.chance(5) {
		e = "nil"
	}
	x := g.declare(of)
	return "var " + x + " " + of + " = " + e + "\n" + used(x)
}

func (g *grower) target(of string) string {
	if x, ok := g.variable(of); ok && !g.chance(4) {
		return x
	}
	return "_"
}

func (g *grower) assignment() string {
	if x, ok := g.variable("int"); ok && g.chance(2) {
		return x + pickOf(g, "++", "--")
	}
	of := g.typeText()
	return g.target(of) + " = " + g.expr(of)
}

func (g *grower) choice() string {
	s := "if " + g.expr("bool") + " " + g.block()
	switch g.r.Intn(3) {
	case 0:
		s += " else " + g.block()
	case 1:
		if !g.tight() {
			s += " else " + g.choice()
		}
	}
	return s
}

func (g *grower) inLoop() string {
	g.loops++
	defer func() { g.loops-- }()
	return g.block()
}

// opened is a block with something at its beginning.
func opened(first, block string) string { return "{\n" + first + strings.TrimPrefix(block, "{\n") }

func (g *grower) loop() string {
	return g.scoped(func() string {
		switch g.r.Intn(6) {
		case 0:
			return "for " + g.inLoop()
		case 1:
			return "for " + g.expr("bool") + " " + g.inLoop()
		case 2:
			return g.counting()
		case 3:
			return g.threeParts()
		}
		return g.ranging()
	})
}

func (g *grower) counting() string {
	x := g.declare("int")
	return "for " + x + " := 0; " + x + " < " + strconv.Itoa(1+g.r.Intn(4)) + "; " + x + "++ " + g.inLoop()
}

func (g *grower) threeParts() string {
	of := g.typeText()
	start, first := "", ""
	switch g.r.Intn(3) {
	case 0:
		e := g.expr(of)
		x := g.declare(of)
		start, first = x+" := "+e, used(x)
	case 1:
		start = g.target(of) + " = " + g.expr(of)
	}
	cond, next := "", ""
	if g.chance(2) {
		cond = g.expr("bool")
	}
	if !g.chance(3) {
		next = pickOf(g, g.target(of)+" = "+g.expr(of), "yield()", "println(7)")
	}
	return "for " + start + "; " + cond + "; " + next + " " + opened(first, g.inLoop())
}

// filled is a channel that a function fills and closes, or any one.
func (g *grower) filled() (string, string) {
	if g.risky() {
		of := g.channel()
		return of, g.expr(of)
	}
	l := pickOf(g, [2]string{"chan int", "ints()"}, [2]string{"chan Mutex", "mutexes()"}, [2]string{"chan chan int", "chans()"})
	return l[0], l[1]
}

func (g *grower) ranging() string {
	of, e := g.filled()
	switch g.r.Intn(3) {
	case 0:
		return "for range " + e + " " + g.inLoop()
	case 1:
		if x, ok := g.variable(element(of)); ok {
			return "for " + x + " = range " + e + " " + g.inLoop()
		}
	}
	x := g.declare(element(of))
	return "for " + x + " := range " + e + " " + opened(used(x), g.inLoop())
}

func (g *grower) clause() string {
	g.others++
	defer func() { g.others-- }()
	return g.statements()
}

func (g *grower) switching() string {
	of, head := "bool", ""
	if !g.chance(3) {
		of = g.typeText()
		head = g.expr(of) + " "
	}
	s := "switch " + head + "{\n"
	other := g.r.Intn(5)
	for i := range g.r.Intn(4) {
		if i == other {
			s += "default:\n"
		} else {
			var l []string
			for range 1 + g.r.Intn(3) {
				l = append(l, g.expr(of))
			}
			s += "case " + strings.Join(l, ", ") + ":\n"
		}
		s += g.scoped(g.clause)
	}
	return s + "}"
}

func (g *grower) selecting() string {
	s := "select {\n"
	other := g.r.Intn(4)
	for i := range 4 {
		if g.risky() && g.chance(2) {
			break
		}
		s += g.scoped(func() string {
			head := "default:\n"
			if i != other {
				head = "case " + g.arm()
			}
			return head + g.clause()
		})
	}
	return s + "}"
}

// arm is an arm's statement, with uses of what it declares behind the colon.
func (g *grower) arm() string {
	of := g.channel()
	c := g.expr(of)
	switch g.r.Intn(7) {
	case 0, 1:
		return c + " <- " + g.expr(element(of)) + ":\n"
	case 2:
		return "<-" + c + ":\n"
	case 3:
		return g.target(element(of)) + " = <-" + c + ":\n"
	case 4:
		return g.target(element(of)) + ", " + g.target("bool") + " = <-" + c + ":\n"
	case 5:
		x := g.declare(element(of))
		return x + " := <-" + c + ":\n" + used(x)
	}
	head, uses := g.two(element(of))
	return head + " := <-" + c + ":\n" + uses
}

// two is two targets that are declared, one of them perhaps blank.
func (g *grower) two(of string) (string, string) {
	switch g.r.Intn(3) {
	case 0:
		x := g.declare("bool")
		return "_, " + x, used(x)
	case 1:
		x := g.declare(of)
		return x + ", _", used(x)
	}
	x, y := g.declare(of), g.declare("bool")
	return x + ", " + y, used(x, y)
}

func (g *grower) leaving() string {
	s := "return"
	if g.result != "" {
		s += " " + g.expr(g.result)
	}
	if g.loops+g.others > 0 && !g.chance(4) {
		s = "break"
	}
	if g.loops > 0 && g.chance(2) {
		s = "continue"
	}
	if g.chance(4) {
		return s
	}
	return "if " + g.expr("bool") + " {\n" + s + "\n}"
}

// communication is a send or a receive, mostly where it can be done at once.
func (g *grower) communication() string {
	of := g.channel()
	c, ok := g.variable(of)
	if !ok {
		return g.declaration()
	}
	e := g.expr(element(of))
	if g.risky() {
		return pickOf(g, c+" <- "+e, g.target(element(of))+", "+g.target("bool")+" = <-"+c, "<-"+c, "close("+c+")")
	}
	if g.chance(2) {
		return "if len(" + c + ") < cap(" + c + ") {\n" + c + " <- " + e + "\n}"
	}
	if g.chance(2) {
		head, uses := g.scopedTwo(element(of))
		return "if len(" + c + ") > 0 {\n" + head + " := <-" + c + "\n" + uses + "}"
	}
	return "if len(" + c + ") > 0 {\n" + g.target(element(of)) + ", " + g.target("bool") + " = <-" + c + "\n}"
}

func (g *grower) scopedTwo(of string) (head, uses string) {
	g.scoped(func() string {
		head, uses = g.two(of)
		return ""
	})
	return head, uses
}

func (g *grower) doing() string {
	switch g.r.Intn(8) {
	case 0, 1:
		if len(g.funcs) > 0 {
			return pickOf(g, "", "", "go ") + g.call(pickOf(g, g.funcs...))
		}
	case 2:
		return "yield()"
	case 3:
		m := g.expr("Mutex")
		if g.risky() {
			return m + pickOf(g, ".Lock()", ".Unlock()")
		}
		return "if false { " + m + ".Lock() }"
	case 4:
		w := g.expr("WaitGroup")
		if g.risky() {
			return w + pickOf(g, ".Done()", ".Wait()", ".Add("+g.expr("int")+")")
		}
		return w + ".Add(" + strconv.Itoa(g.r.Intn(2)) + ")"
	case 5:
		if x, ok := g.variable("Mutex"); ok && g.risky() {
			return x + ".Lock()\nyield()\n" + x + ".Unlock()"
		}
	}
	var l []string
	for range g.r.Intn(4) {
		l = append(l, pickOf(g, `"t"`, g.expr("int"), g.expr("bool")))
	}
	return "println(" + strings.Join(l, ", ") + ")"
}

func (g *grower) function(f known) string {
	g.result, g.scopes, g.names = f.of, nil, 0
	return g.scoped(func() string {
		var l []string
		for _, of := range f.params {
			l = append(l, g.declare(of)+" "+of)
		}
		s := "func " + f.text + "(" + strings.Join(l, ", ") + ") " + f.of + " {\n" + g.statements()
		if f.of != "" {
			s += "return " + g.expr(f.of) + "\n"
		}
		return s + "}\n"
	})
}

// main grows one that has objects from the beginning on, begins goroutines, and lets them run.
func (g *grower) main() string {
	g.result, g.scopes, g.names = "", nil, 0
	return g.scoped(func() string {
		s := "func main() {\n"
		for range 2 + g.r.Intn(4) {
			of := pickOf(g, "chan int", "chan int", "chan chan int", "chan Mutex", "Mutex", "WaitGroup")
			e := "make(" + of + ")"
			if strings.HasPrefix(of, "chan") {
				e = "make(" + of + ", " + strconv.Itoa(g.r.Intn(3)) + ")"
			}
			x := g.declare(of)
			s += x + " := " + e + "\n" + used(x)
			if of == "WaitGroup" {
				s += x + ".Add(" + strconv.Itoa(g.r.Intn(3)) + ")\n"
			}
		}
		for range g.r.Intn(5) {
			s += "go " + g.call(pickOf(g, append(beside(), g.funcs...)...)) + "\n"
		}
		s += g.statements()
		for range g.r.Intn(3) {
			s += "yield()\n" + g.statements()
		}
		return s + "}\n"
	})
}

// beside is those of grownBeside that goroutines are begun with.
func beside() []known {
	return []known{
		{text: "sender", params: []string{"chan int"}},
		{text: "pusher", params: []string{"chan chan int", "chan int"}},
		{text: "locker", params: []string{"Mutex"}},
		{text: "freer", params: []string{"Mutex"}},
		{text: "joiner", params: []string{"WaitGroup"}},
		{text: "doner", params: []string{"WaitGroup", "chan int"}},
		{text: "chooser", params: []string{"chan int", "chan int"}},
	}
}

// grownBeside are functions that grown ones call.
const grownBeside = `
func ints() chan int { c := make(chan int, 3); c <- 1; c <- 2; c <- 3; close(c); return c }
func mutexes() chan Mutex { c := make(chan Mutex, 3); c <- make(Mutex); c <- nil; c <- make(Mutex); close(c); return c }
func chans() chan chan int { c := make(chan chan int, 3); c <- make(chan int, 1); c <- ints(); c <- nil; close(c); return c }
func sender(c chan int) { for i := 0; i < 3; i++ { c <- i } }
func pusher(c chan chan int, d chan int) { c <- d; c <- make(chan int); x, ok := <-c; println(x == d, ok) }
func locker(m Mutex) { m.Lock(); yield(); m.Lock(); m.Unlock() }
func freer(m Mutex) { m.Lock(); yield(); m.Unlock(); yield(); m.Lock() }
func joiner(g WaitGroup) { g.Wait(); println("joined") }
func doner(g WaitGroup, c chan int) { <-c; g.Done() }
func chooser(c chan int, d chan int) { for { select { case x := <-c: d <- x; case d <- 5: case <-d: x := make(Mutex); x.Lock() } } }
func nilMutex() Mutex { return nil }
func nilWaitGroup() WaitGroup { return nil }
func nilCint() chan int { return nil }
func nilCbool() chan bool { return nil }
func nilCMutex() chan Mutex { return nil }
func nilCCint() chan chan int { return nil }
`

// file grows a source whose main stands somewhere.
func (g *grower) file() string {
	for _, text := range []string{"f", "g", "h"}[:g.r.Intn(4)] {
		f := known{text: text}
		if g.chance(2) {
			f.of = g.typeText()
		}
		for range g.r.Intn(4) {
			f.params = append(f.params, pickOf(g, "chan int", "chan chan int", "Mutex", "WaitGroup", g.typeText()))
		}
		g.funcs = append(g.funcs, f)
	}
	var l []string
	risk := g.risk
	for _, f := range g.funcs {
		g.room, g.risk = 10+g.r.Intn(60), pickOf(g, risk, 30, 60)
		l = append(l, g.function(f))
	}
	g.room, g.risk = 30+g.r.Intn(150), risk
	at := g.r.Intn(len(l) + 1)
	l = append(l[:at:at], append([]string{g.main()}, l[at:]...)...)
	return strings.Join(l, "") + grownBeside
}
