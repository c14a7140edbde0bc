package code

import (
	"math/big"
	"math/rand"
	"slices"
	"testing"

	"drowse/api"
)

// told is an answer of Check.
type told struct {
	err   api.Errno
	f, at int
}

// modelOfFunc is Check's third part again, told by sets: each rule by itself names the instructions that break it.
func modelOfFunc(p api.Program, f int) (told, []*big.Int) {
	g := p.Funcs[f]
	n := int64(len(g.Code))
	if len(g.Name) > 30 || g.Params < 0 || g.Params > 8 || g.Slots < g.Params || g.Slots > 250 || n == 0 || n > 1<<23 {
		return told{api.ErrCodeMany, f, -1}, nil
	}
	shapes := modelOps(p, g)
	for at, i := range g.Code {
		if !slices.Contains(shapes, modelShape(i)) {
			return told{api.ErrCodeOp, f, at}, nil
		}
	}
	if g.Code[0].Op != api.OpBeat {
		return told{api.ErrCodeBeat, f, 0}, nil
	}
	for at, i := range g.Code {
		if i.Op != api.OpJump && i.Op != api.OpIf && i.Op != api.OpUnless {
			continue
		}
		if i.A < 0 || i.A >= n {
			return told{api.ErrCodeJump, f, at}, nil
		}
		if i.A <= int64(at) && g.Code[i.A].Op != api.OpBeat {
			return told{api.ErrCodeBeat, f, at}, nil
		}
	}
	return modelOfDepths(p, f)
}

// modelShape is what of an instruction says whether it may stand in a function: a jump may have any A, an OpInt too.
func modelShape(i api.Ins) api.Ins {
	switch i.Op {
	case api.OpInt, api.OpJump, api.OpIf, api.OpUnless:
		i.A = 0
	}
	if i.Line >= 0 && i.Line <= 1<<31-1 {
		i.Line = 0
	}
	return i
}

// modelOps are the shapes of all instructions that may stand in a function.
func modelOps(p api.Program, g api.Func) []api.Ins {
	var l []api.Ins
	add := func(count int, ops ...api.Op) {
		for _, op := range ops {
			for a := range count {
				l = append(l, ins(op, int64(a)))
			}
		}
	}
	for _, r := range chapterRows() {
		if r.a == "slot" {
			add(g.Slots, r.ops...)
		} else if r.ops[0] != api.OpRet && r.ops[0] != api.OpRetValue {
			add(1, r.ops...)
		}
	}
	if g.Result {
		add(1, api.OpRetValue)
	} else {
		add(1, api.OpRet)
	}
	add(len(p.Funcs), api.OpCall, api.OpGo)
	add(len(p.Prints), api.OpPrint)
	for a := range p.Arms {
		l = append(l, api.Ins{Op: api.OpSelect, A: int64(a)}, api.Ins{Op: api.OpSelect, A: int64(a), B: 1})
	}
	return l
}

// modelEffect is Effect again, by the chapter's rows.
func modelEffect(p api.Program, i api.Ins) (int, int) {
	for _, r := range chapterRows() {
		if slices.Contains(r.ops, i.Op) {
			return r.takes, r.gives
		}
	}
	has := func(n int) bool { return i.A >= 0 && i.A < int64(n) }
	switch {
	case i.Op == api.OpGo && has(len(p.Funcs)):
		return p.Funcs[i.A].Params, 0
	case i.Op == api.OpCall && has(len(p.Funcs)) && p.Funcs[i.A].Result:
		return p.Funcs[i.A].Params, 1
	case i.Op == api.OpCall && has(len(p.Funcs)):
		return p.Funcs[i.A].Params, 0
	case i.Op == api.OpSelect && has(len(p.Arms)):
		takes := 0
		for _, sends := range p.Arms[i.A] {
			takes += map[bool]int{false: 1, true: 2}[sends]
		}
		return takes, 3
	case i.Op == api.OpPrint && has(len(p.Prints)):
		texts := 0
		for _, item := range p.Prints[i.A] {
			if item.Kind != api.ItemInt && item.Kind != api.ItemBool {
				texts++
			}
		}
		return len(p.Prints[i.A]) - texts, 0
	}
	return 0, 0
}

// modelNext is where an instruction goes on.
func modelNext(i api.Ins, at int) []int {
	switch i.Op {
	case api.OpJump:
		return []int{int(i.A)}
	case api.OpIf, api.OpUnless:
		return []int{at + 1, int(i.A)}
	case api.OpRet, api.OpRetValue:
		return nil
	}
	return []int{at + 1}
}

// modelOfDepths goes through the depths with numbers of any size; nil is unknown.
func modelOfDepths(p api.Program, f int) (told, []*big.Int) {
	code := p.Funcs[f].Code
	l := make([]*big.Int, len(code))
	l[0] = big.NewInt(0)
	for at, i := range code {
		if l[at] == nil {
			continue
		}
		takes, gives := modelEffect(p, i)
		left := new(big.Int).Sub(l[at], big.NewInt(int64(takes)))
		behind := new(big.Int).Add(left, big.NewInt(int64(gives)))
		if left.Sign() < 0 || behind.Cmp(big.NewInt(1000)) > 0 {
			return told{api.ErrCodeStack, f, at}, nil
		}
		next := modelNext(i, at)
		if slices.Contains(next, len(code)) {
			return told{api.ErrCodeJump, f, at}, nil
		}
		for _, to := range next {
			if l[to] == nil && to > at {
				l[to] = behind
			}
			if l[to] == nil || l[to].Cmp(behind) != 0 {
				return told{api.ErrCodeStack, f, at}, nil
			}
		}
	}
	return told{api.OK, -1, -1}, l
}

// modelOfWhole is Check's first two parts again.
func modelOfWhole(p api.Program) api.Errno {
	texts := 0
	most, most2 := 0, 0
	op := p.Main < 0 || p.Main >= len(p.Funcs) || p.Funcs[p.Main].Params != 0 || p.Funcs[p.Main].Result
	for _, l := range p.Prints {
		most = max(most, len(l))
		for _, item := range l {
			texts += len(item.Text)
			op = op || item.Kind < 1 || item.Kind > 3 || item.Text != "" && item.Kind != 1
		}
	}
	for _, l := range p.Arms {
		most2 = max(most2, len(l))
	}
	if len(p.Funcs) == 0 || len(p.Funcs) > 100 || most > 20 || most2 > 50 || texts > 20000 {
		return api.ErrCodeMany
	}
	if op {
		return api.ErrCodeOp
	}
	return api.OK
}

func model(p api.Program) told {
	if err := modelOfWhole(p); err != api.OK {
		return told{err, -1, -1}
	}
	for f := range p.Funcs {
		if x, _ := modelOfFunc(p, f); x.err != api.OK {
			return x
		}
	}
	return told{api.OK, -1, -1}
}

// wantModel asks each call for what the model says, and tells that.
func wantModel(t *testing.T, p api.Program) told {
	t.Helper()
	want := model(p)
	if err, f, at := Check(p); (told{err, f, at}) != want {
		t.Errorf("Check is %d, %d, %d, not %v, of %v", err, f, at, want, p)
		return want
	}
	for f := -1; f <= len(p.Funcs); f++ {
		l, err := Depths(p, f)
		switch {
		case want.err != api.OK && (err != want.err || len(l) != 0):
			t.Errorf("Depths is %v, %d, not %d, of %v", l, err, want.err, p)
		case want.err == api.OK && (f < 0 || f == len(p.Funcs)) && (err != api.ErrArg || len(l) != 0):
			t.Errorf("Depths of %d is %v, %d, of %v", f, l, err, p)
		case want.err == api.OK && f >= 0 && f < len(p.Funcs):
			_, depths := modelOfDepths(p, f)
			if err != api.OK || !slices.Equal(l, numbers(depths)) {
				t.Errorf("Depths of %d is %v, %d, not %v, of %v", f, l, err, depths, p)
			}
		}
	}
	if s, err := Encode(p); err != want.err || want.err == api.OK && s != raw(p) || want.err != api.OK && s != "" {
		t.Errorf("Encode is %x, %d, of %v", s, err, p)
	}
	if want.err == api.OK {
		wantBytes(t, "by the model", p)
	}
	return want
}

func numbers(l []*big.Int) []int {
	var all []int
	for _, n := range l {
		if n == nil {
			all = append(all, -1)
		} else {
			all = append(all, int(n.Int64()))
		}
	}
	return all
}

// anyProgram is small, and mostly wrong somewhere.
func anyProgram(r *rand.Rand) api.Program {
	var p api.Program
	for range r.Intn(3) {
		var l []api.Item
		for range r.Intn(3) {
			l = append(l, api.Item{Kind: api.ItemKind(1 + r.Intn(3))})
		}
		p.Prints = append(p.Prints, l)
	}
	for range r.Intn(3) {
		var l []bool
		for range r.Intn(3) {
			l = append(l, r.Intn(2) == 0)
		}
		p.Arms = append(p.Arms, l)
	}
	for range 1 + r.Intn(3) {
		f := api.Func{Params: r.Intn(3), Result: r.Intn(3) == 0}
		f.Slots = f.Params + r.Intn(3)
		p.Funcs = append(p.Funcs, f)
	}
	p.Main = r.Intn(len(p.Funcs))
	p.Funcs[p.Main].Params, p.Funcs[p.Main].Result = 0, false
	for n := range p.Funcs {
		p.Funcs[n].Code = anyCode(r, p, p.Funcs[n])
	}
	return p
}

// anyCode is instructions by chance, of which most may stand where they stand.
func anyCode(r *rand.Rand, p api.Program, f api.Func) []api.Ins {
	shapes := slices.DeleteFunc(modelOps(p, f), func(i api.Ins) bool { return r.Intn(2) == 0 })
	shapes = append(shapes, beat, ins(api.OpInt, 7), ins(api.OpNil, 0), pop, pop, ins(api.OpJump, 0), ins(api.OpIf, 0), ins(api.OpUnless, 0))
	size := 1 + r.Intn(9)
	l := []api.Ins{beat}
	for len(l) < size {
		i := shapes[r.Intn(len(shapes))]
		switch i.Op {
		case api.OpJump, api.OpIf, api.OpUnless:
			i.A = int64(r.Intn(size))
		}
		if r.Intn(100) == 0 {
			i.A += int64(r.Intn(3) - 1)
		}
		l = append(l, i)
	}
	if r.Intn(4) > 0 {
		last := ret
		if f.Result {
			last = do(api.OpRetValue)
		}
		l = append(l, last)
	}
	return l
}

func TestAgainstTheModel(t *testing.T) {
	r := rand.New(rand.NewSource(88))
	seen := map[api.Errno]int{}
	for range 60000 {
		seen[wantModel(t, anyProgram(r)).err]++
	}
	for _, err := range []api.Errno{api.OK, api.ErrCodeOp, api.ErrCodeJump, api.ErrCodeStack, api.ErrCodeBeat} {
		if seen[err] < 500 {
			t.Errorf("only %d of these are told %d", seen[err], err)
		}
	}
}

func TestEffectAgainstTheModel(t *testing.T) {
	r := rand.New(rand.NewSource(89))
	for range 3000 {
		p := anyProgram(r)
		for op := api.Op(-1); op <= api.OpPrint+1; op++ {
			for a := int64(-1); a < 4; a++ {
				takes, gives := modelEffect(p, ins(op, a))
				wantEffect(t, p, ins(op, a), takes, gives)
			}
		}
	}
}

// bent is a right program with one thing changed.
func bent(r *rand.Rand, p api.Program) api.Program {
	p = copied(p)
	f := &p.Funcs[r.Intn(len(p.Funcs))]
	at := r.Intn(len(f.Code))
	i := &f.Code[at]
	switch r.Intn(9) {
	case 0:
		i.Op = api.Op(r.Intn(46) - 1)
	case 1:
		i.A += int64(r.Intn(5) - 2)
	case 2:
		i.B = r.Intn(3) - 1
	case 3:
		i.Line = []int{-1, 0, 5, 1<<31 - 1, 1 << 31}[r.Intn(5)]
	case 4:
		f.Code = slices.Delete(f.Code, at, at+1)
	case 5:
		f.Code = slices.Insert(f.Code, at, f.Code[r.Intn(len(f.Code))])
	case 6:
		f.Params += r.Intn(3) - 1
	case 7:
		f.Slots += r.Intn(3) - 1
	case 8:
		f.Result = !f.Result
	}
	return p
}

func TestBentAgainstTheModel(t *testing.T) {
	r := rand.New(rand.NewSource(90))
	seen := map[api.Errno]int{}
	for range 20000 {
		p := grown(r)
		seen[wantModel(t, bent(r, p)).err]++
	}
	for _, err := range []api.Errno{api.OK, api.ErrCodeMany, api.ErrCodeOp, api.ErrCodeJump, api.ErrCodeStack, api.ErrCodeBeat} {
		if seen[err] < 100 {
			t.Errorf("only %d of these are told %d", seen[err], err)
		}
	}
}
