package code

import (
	"encoding/binary"
	"encoding/hex"
	"math"
	"math/rand"
	"runtime"
	"slices"
	"strings"
	"testing"
	"unsafe"

	"drowse/api"
)

// raw are the bytes of any program, right or not, by another way than the package's.
func raw(p api.Program) string {
	b := []byte("DRW1")
	four := func(n int) { b = binary.BigEndian.AppendUint32(b, uint32(n)) }
	text := func(s string) {
		four(len(s))
		b = append(b, s...)
	}
	bit := func(x bool) {
		b = append(b, map[bool]byte{true: 1}[x])
	}
	four(p.Main)
	four(len(p.Funcs))
	for _, f := range p.Funcs {
		text(f.Name)
		b = append(b, byte(f.Params))
		b = binary.BigEndian.AppendUint16(b, uint16(f.Slots))
		bit(f.Result)
		four(len(f.Code))
		for _, i := range f.Code {
			b = append(b, byte(i.Op))
			b = binary.BigEndian.AppendUint64(b, uint64(i.A))
			b = append(b, byte(i.B))
			four(i.Line)
		}
	}
	four(len(p.Prints))
	for _, l := range p.Prints {
		b = append(b, byte(len(l)))
		for _, item := range l {
			b = append(b, byte(item.Kind))
			if item.Kind == api.ItemText {
				text(item.Text)
			}
		}
	}
	four(len(p.Arms))
	for _, l := range p.Arms {
		b = append(b, byte(len(l)))
		for _, x := range l {
			bit(x)
		}
	}
	return string(b)
}

// rich is a right program with each instruction, and each thing that a program may have.
func rich() api.Program {
	p := api.Program{Main: 1}
	p.Prints = [][]api.Item{{}, {{Kind: api.ItemText, Text: "a\x00\xffb"}, {Kind: api.ItemInt}, {Kind: api.ItemBool}, {Kind: api.ItemText}}, {{Kind: api.ItemInt}}}
	p.Arms = [][]bool{{}, {true}, {false, true, false}}
	p.Funcs = []api.Func{
		{Name: "\xfff", Params: 8, Slots: 250, Result: true, Code: list(beat, ins(api.OpLoad, 249), do(api.OpRetValue))},
		{Name: "main", Slots: 258 - 8, Code: nil},
		{Code: list(beat, ret)},
	}
	code := []api.Ins{{Op: api.OpBeat, Line: 1}, {Op: api.OpInt, A: math.MinInt64, Line: api.MaxCount}, {Op: api.OpInt, A: math.MaxInt64, Line: 0x01020304}, ins(api.OpInt, -2), ins(api.OpInt, 0x0102030405060708), {Op: api.OpStore, A: 249}, pop, pop, pop}
	for _, op := range allOps() {
		switch op {
		case api.OpJump, api.OpIf, api.OpUnless:
			takes, _ := Effect(p, do(op))
			code = append(code, times(takes, push)...)
			code = append(code, ins(op, int64(len(code)+1)))
		case api.OpRet, api.OpRetValue:
		default:
			i := do(op)
			if op == api.OpSelect {
				i = api.Ins{Op: op, A: 2, B: 1, Line: 9}
			}
			if op == api.OpPrint {
				i.A = 1
			}
			takes, gives := Effect(p, i)
			code = append(code, list(times(takes, push), i, times(gives, pop))...)
		}
	}
	p.Funcs[1].Code = append(code, ret)
	return p
}

func wantBytes(t *testing.T, what any, p api.Program) {
	t.Helper()
	was := copied(p)
	s, err := Encode(p)
	if err != api.OK || s != raw(p) {
		t.Errorf("%v: Encode is %x, %d, not %x", what, s, err, raw(p))
		return
	}
	q, err := Decode(s)
	if err != api.OK || !same(p, q) {
		t.Errorf("%v: Decode is %v, %d, not %v", what, q, err, p)
	}
	if !same(p, was) {
		t.Errorf("%v: what was handed in has been changed", what)
	}
}

func wantNoProgram(t *testing.T, what any, s string) {
	t.Helper()
	if p, err := Decode(s); err != api.ErrCodeForm || !same(p, api.Program{}) {
		t.Errorf("%v: Decode is %v, %d", what, p, err)
	}
}

func TestBytesOfTheExample(t *testing.T) {
	s, err := Encode(one(beat, ret))
	want, _ := hex.DecodeString("44525731" + "00000000" + "00000001" + "00000004" + "6d61696e" + "00" + "0002" + "00" + "00000002" + "01" + "0000000000000000" + "00" + "00000000" + "1a" + "0000000000000000" + "00" + "00000000" + "00000000" + "00000000")
	if err != api.OK || s != string(want) || len(s) != 64 {
		t.Errorf("%x, %d", s, err)
	}
	wantNoProgram(t, "nothing", "")
	wantNoProgram(t, "without the last one", s[:63])
	for b := range 256 {
		wantNoProgram(t, "one more", s+string([]byte{byte(b)}))
	}
}

func TestBytesWrittenOut(t *testing.T) {
	p := api.Program{Main: 1, Prints: [][]api.Item{{{Kind: api.ItemText, Text: "hi\xff"}, {Kind: api.ItemInt}, {Kind: api.ItemBool}}, {}}, Arms: [][]bool{{}, {true, false}}}
	p.Funcs = []api.Func{
		{Name: "f", Params: 2, Slots: 250, Result: true, Code: []api.Ins{{Op: api.OpBeat, Line: 0x7fffffff}, {Op: api.OpInt, A: -2, Line: 0x01020304}, {Op: api.OpRetValue}}},
		{Slots: 3, Code: []api.Ins{{Op: api.OpBeat}, {Op: api.OpRet}, {Op: api.OpSelect, A: 1, B: 1}}},
	}
	want, _ := hex.DecodeString("44525731" + "00000001" + "00000002" +
		"00000001" + "66" + "02" + "00fa" + "01" + "00000003" +
		"01" + "0000000000000000" + "00" + "7fffffff" +
		"02" + "fffffffffffffffe" + "00" + "01020304" +
		"1b" + "0000000000000000" + "00" + "00000000" +
		"00000000" + "00" + "0003" + "00" + "00000003" +
		"01" + "0000000000000000" + "00" + "00000000" +
		"1a" + "0000000000000000" + "00" + "00000000" +
		"29" + "0000000000000001" + "01" + "00000000" +
		"00000002" + "03" + "01" + "00000003" + "6869ff" + "02" + "03" + "00" +
		"00000002" + "00" + "02" + "01" + "00")
	if s, err := Encode(p); err != api.OK || s != string(want) {
		t.Errorf("%x, %d, not %x", s, err, want)
	}
	wantBytes(t, "written out", p)
}

func TestThereAndBack(t *testing.T) {
	wantRight(t, "rich", rich())
	wantBytes(t, "rich", rich())
	wantBytes(t, "sound", sound())
	for _, n := range []int{1, 2, 100} {
		wantBytes(t, n, funcs(n))
	}
	p := funcs(1)
	for _, name := range []string{"", "x", strings.Repeat("\xc3", 30), "DRW1"} {
		p.Funcs[0].Name = name
		wantBytes(t, name, p)
	}
	for params := range 9 {
		p := funcs(2)
		for _, slots := range []int{params, 250} {
			p.Funcs[1].Params, p.Funcs[1].Slots = params, slots
			wantBytes(t, params, p)
		}
	}
	p = funcs(1)
	for n := range 21 {
		for kind := api.ItemText; kind <= api.ItemBool; kind++ {
			p.Prints = [][]api.Item{slices.Repeat([]api.Item{{Kind: kind}}, n), {{Kind: api.ItemText, Text: "x"}}}
			wantBytes(t, n, p)
		}
	}
	p.Prints = [][]api.Item{{{Kind: api.ItemText, Text: strings.Repeat("\x00", 20000)}}}
	wantBytes(t, "20000 bytes", p)
	for n := range 51 {
		p.Arms = [][]bool{make([]bool, n), nil, slices.Repeat([]bool{true}, n)}
		wantBytes(t, n, p)
	}
	p.Prints, p.Arms = make([][]api.Item, 300), make([][]bool, 70000)
	wantBytes(t, "many", p)
}

func TestNumbersThereAndBack(t *testing.T) {
	for bit := range 64 {
		for _, a := range []int64{1 << bit, -1 << bit, 1<<bit - 1, ^(1 << bit)} {
			wantBytes(t, a, one(beat, ins(api.OpInt, a), ret))
		}
	}
	for bit := range 31 {
		wantBytes(t, bit, one(api.Ins{Op: api.OpBeat, Line: 1 << bit}, api.Ins{Op: api.OpRet, Line: 2<<bit - 1}))
	}
}

func TestEncodeErrors(t *testing.T) {
	for _, x := range allFlaws() {
		p := sound()
		x.put(&p)
		if s, err := Encode(p); s != "" || err != x.err {
			t.Errorf("Encode is %d bytes, %d, not %d", len(s), err, x.err)
		}
	}
}

func TestBytesCutOff(t *testing.T) {
	for _, p := range []api.Program{rich(), sound(), one(beat, ret)} {
		s := raw(p)
		for n := range s {
			wantNoProgram(t, n, s[:n])
			if n > 0 {
				wantNoProgram(t, n, s[n:])
			}
		}
		wantNoProgram(t, "twice", s+s)
	}
}

func TestOtherBeginnings(t *testing.T) {
	s := raw(one(beat, ret))
	for n := range 4 {
		for b := range 256 {
			if byte(b) != s[n] {
				wantNoProgram(t, n, s[:n]+string([]byte{byte(b)})+s[n+1:])
			}
		}
	}
}

// Other bytes at each place: no program, or another one with these very bytes.
func TestBytesChanged(t *testing.T) {
	every := make([]byte, 256)
	for n := range every {
		every[n] = byte(n)
	}
	small := one(beat, ins(api.OpInt, 3), ins(api.OpSelect, 0), ins(api.OpPrint, 0), ret)
	small.Prints = [][]api.Item{{{Kind: api.ItemText, Text: "x"}}, {{Kind: api.ItemInt}}}
	small.Arms = [][]bool{{}, {true, false}}
	if n := changed(t, raw(small), every); n < 2000 {
		t.Errorf("only %d of these are programs", n)
	}
	if n := changed(t, raw(rich()), []byte{0, 1, 2, 3, 4, 20, 45, 127, 128, 255}); n < 2000 {
		t.Errorf("only %d of these are programs", n)
	}
}

// changed tries these bytes at each place, and tells how many programs there are.
func changed(t *testing.T, s string, bytes []byte) int {
	programs := 0
	for n := range s {
		for _, b := range bytes {
			programs += wantOwnBytes(t, s[:n]+string([]byte{b})+s[n+1:])
		}
	}
	return programs
}

// wantOwnBytes asks that Encode of what Decode tells is the bytes, and tells whether there is a program.
func wantOwnBytes(t *testing.T, s string) int {
	t.Helper()
	p, err := Decode(s)
	if err != api.OK {
		if err != api.ErrCodeForm || !same(p, api.Program{}) {
			t.Errorf("Decode is %v, %d", p, err)
		}
		return 0
	}
	if again, err := Encode(p); err != api.OK || again != s {
		t.Errorf("Encode of Decode of %x is %x, %d", s, again, err)
	}
	return 1
}

func TestBytesAtRandom(t *testing.T) {
	r := rand.New(rand.NewSource(81))
	s := raw(rich())
	for range 20000 {
		b := []byte(s)
		for range 1 + r.Intn(4) {
			from := r.Intn(len(b))
			switch r.Intn(3) {
			case 0:
				b[from] = byte(r.Intn(256))
			case 1:
				b = slices.Delete(b, from, min(len(b), from+1+r.Intn(3)))
			case 2:
				b = slices.Insert(b, from, byte(r.Intn(4)))
			}
		}
		wantOwnBytes(t, string(b))
	}
	for range 20000 {
		b := make([]byte, r.Intn(100))
		for n := range b {
			b[n] = byte(r.Intn(3))
		}
		wantOwnBytes(t, "DRW1"+string(b))
	}
}

func TestFlags(t *testing.T) {
	p := api.Program{Arms: [][]bool{{true}}, Funcs: []api.Func{{Code: list(beat, ret)}, {Result: true, Code: list(beat, push, do(api.OpRetValue))}}}
	s := raw(p)
	wantBytes(t, "as it is", p)
	result := 4 + 4 + 4 + (12 + 28) + 4 + 1 + 2
	for b := range 256 {
		other := s[:len(s)-1] + string([]byte{byte(b)})
		if b <= 1 {
			q, err := Decode(other)
			if err != api.OK || q.Arms[0][0] != (b == 1) {
				t.Error(b, q, err)
			}
		} else {
			wantNoProgram(t, b, other)
		}
		if b != 1 {
			wantNoProgram(t, b, s[:result]+string([]byte{byte(b)})+s[result+1:])
		}
	}
}

// The bytes of programs that are not right are no program's.
func TestBytesOfWrongPrograms(t *testing.T) {
	for _, x := range allFlaws() {
		p := sound()
		x.put(&p)
		for n := range p.Funcs {
			if p.Funcs[n].Params < 0 {
				p.Funcs[n].Params = 255
			}
		}
		for n, l := range p.Prints {
			for m, item := range l {
				if item.Kind != api.ItemText && item.Text != "" {
					p.Prints[n][m] = api.Item{} // such a Text has no bytes: another fault instead
				}
			}
		}
		wantNoProgram(t, x.err, raw(p))
	}
	for _, p := range []api.Program{{}, one(), one(ret), one(beat), one(beat, pop, ret), funcs(101), one(list(beat, times(1001, push), ret)...)} {
		wantNoProgram(t, "not right", raw(p))
	}
	for _, i := range []api.Ins{{Op: api.OpYield, Line: api.MaxCount + 1}, {Op: api.OpYield, Line: math.MaxUint32}, {Op: api.OpYield, B: 1}, {Op: api.OpYield, B: 255}, {Op: 44}, {Op: 255}, {}} {
		wantNoProgram(t, i, raw(one(beat, i, ret)))
	}
	p := funcs(2)
	for _, main := range []int{2, 1 << 31, math.MaxUint32} {
		p.Main = main
		wantNoProgram(t, main, raw(p))
	}
}

// Each count of a program that has one function without a name and two instructions, one print with a text, and one select with an arm.
func TestCountsThatAreTooGreat(t *testing.T) {
	p := one(beat, ret)
	p.Funcs[0].Name = ""
	p.Prints = [][]api.Item{{{Kind: api.ItemText, Text: "x"}}}
	p.Arms = [][]bool{{true}}
	s := raw(p)
	wantBytes(t, "as it is", p)
	code := 12 + 4 + 1 + 2 + 1
	prints := code + 4 + 28
	wide := []int{8, 12, code, prints, prints + 6, prints + 11}
	narrow := []int{prints + 4, prints + 15}
	for _, at := range wide {
		have := binary.BigEndian.Uint32([]byte(s[at:]))
		for _, n := range []uint32{have + 1, have + 2, 255, 256, 100, 101, 20, 30, 31, 1 << 16, 1 << 23, 1<<23 + 1, 1 << 30, math.MaxInt32, 1 << 31, math.MaxUint32} {
			wantNoProgram(t, at, s[:at]+string(binary.BigEndian.AppendUint32(nil, n))+s[at+4:])
		}
		if have > 0 {
			wantNoProgram(t, at, s[:at]+string(binary.BigEndian.AppendUint32(nil, have-1))+s[at+4:])
		}
	}
	for _, at := range narrow {
		for n := range 256 {
			if byte(n) != s[at] {
				wantNoProgram(t, at, s[:at]+string([]byte{byte(n)})+s[at+1:])
			}
		}
	}
}

// A count that nothing stands behind costs no memory.
func TestCountsCostNothing(t *testing.T) {
	head := "DRW1\x00\x00\x00\x00"
	for _, s := range []string{
		head + "\xff\xff\xff\xff",
		head + "\x00\x00\x00\x01\xff\xff\xff\xff",
		head + "\x00\x00\x00\x01\x00\x00\x00\x00\x00\x00\x00\x00\x00\x7f\xff\xff",
		raw(one(beat, ret))[:56] + "\x00\x7f\xff\xff",
		raw(one(beat, ret))[:60] + "\x00\x7f\xff\xff",
	} {
		var before, after runtime.MemStats
		runtime.ReadMemStats(&before)
		wantNoProgram(t, s, s)
		runtime.ReadMemStats(&after)
		if used := after.TotalAlloc - before.TotalAlloc; used > 1<<16 {
			t.Errorf("%d bytes of memory for %d bytes", used, len(s))
		}
	}
}

// No two lists of an answer share memory, not behind their lengths either.
func TestDecodedListsAreTheirOwn(t *testing.T) {
	p := rich()
	s := raw(p)
	q, _ := Decode(s)
	for n := range q.Funcs {
		_ = append(q.Funcs[n].Code, ins(99, 99), ins(99, 99))
	}
	for n := range q.Prints {
		_ = append(q.Prints[n], api.Item{Kind: 99}, api.Item{Kind: 99})
	}
	for n := range q.Arms {
		_ = append(q.Arms[n], true, true, true)
	}
	_ = append(q.Funcs, api.Func{})
	_ = append(q.Prints, nil)
	_ = append(q.Arms, nil)
	if !same(p, q) {
		t.Error("one list is written into by way of another one")
	}
	for n := range q.Funcs {
		clear(q.Funcs[n].Code)
	}
	for n := range q.Prints {
		clear(q.Prints[n])
	}
	for n := range q.Arms {
		clear(q.Arms[n])
	}
	if again, err := Decode(s); err != api.OK || !same(p, again) {
		t.Error("one answer is written into by way of another one")
	}
}

func TestDecodedTextsAreTheirOwn(t *testing.T) {
	s := raw(rich())
	p, _ := Decode(s)
	from := uintptr(unsafe.Pointer(unsafe.StringData(s)))
	lies := func(text string) {
		if text == "" {
			return
		}
		if at := uintptr(unsafe.Pointer(unsafe.StringData(text))); at >= from && at < from+uintptr(len(s)) {
			t.Errorf("%q lies in what was handed in", text)
		}
	}
	for _, f := range p.Funcs {
		lies(f.Name)
	}
	for _, l := range p.Prints {
		for _, item := range l {
			lies(item.Text)
		}
	}
}
