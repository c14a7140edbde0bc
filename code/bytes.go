package code

import (
	"strings"

	"drowse/api"
)

// magic is what a program's bytes begin with.
const magic = "DRW1"

// How many bytes the least function, instruction, print, item, select and arm has: no list can be longer than what is left has room for.
const (
	leastFunc   = 12
	leastIns    = 14
	leastPrint  = 1
	leastItem   = 1
	leastSelect = 1
	leastArm    = 1
)

// Encode is a program as bytes.
func Encode(p api.Program) (string, api.Errno) {
	if err, _, _ := Check(p); err != api.OK {
		return "", err
	}
	var w writer
	w.program(p)
	return w.String(), api.OK
}

type writer struct{ strings.Builder }

// number writes the lowest bytes of n, as many as size says, the highest one first.
func (w *writer) number(n int64, size int) {
	for size > 0 {
		size--
		w.WriteByte(byte(n >> (8 * size)))
	}
}

func (w *writer) text(s string) {
	w.number(int64(len(s)), 4)
	w.WriteString(s)
}

func (w *writer) flag(b bool) {
	if b {
		w.WriteByte(1)
	} else {
		w.WriteByte(0)
	}
}

func (w *writer) program(p api.Program) {
	w.WriteString(magic)
	w.number(int64(p.Main), 4)
	w.number(int64(len(p.Funcs)), 4)
	for _, f := range p.Funcs {
		w.function(f)
	}
	w.number(int64(len(p.Prints)), 4)
	for _, list := range p.Prints {
		w.number(int64(len(list)), 1)
		for _, item := range list {
			w.item(item)
		}
	}
	w.number(int64(len(p.Arms)), 4)
	for _, list := range p.Arms {
		w.number(int64(len(list)), 1)
		for _, sends := range list {
			w.flag(sends)
		}
	}
}

func (w *writer) function(f api.Func) {
	w.text(f.Name)
	w.number(int64(f.Params), 1)
	w.number(int64(f.Slots), 2)
	w.flag(f.Result)
	w.number(int64(len(f.Code)), 4)
	for _, i := range f.Code {
		w.number(int64(i.Op), 1)
		w.number(i.A, 8)
		w.number(int64(i.B), 1)
		w.number(int64(i.Line), 4)
	}
}

func (w *writer) item(item api.Item) {
	w.number(int64(item.Kind), 1)
	if item.Kind == api.ItemText {
		w.text(item.Text)
	}
}

// Decode is the program of some bytes.
func Decode(s string) (p api.Program, err api.Errno) {
	defer func() {
		if r := recover(); r != nil {
			p, err = api.Program{}, errorOf(r)
		}
	}()
	r := reader{rest: s}
	p = r.program()
	wrong, _, _ := Check(p)
	r.need(wrong == api.OK)
	return p, api.OK
}

// noProgram is what a reader gives up with.
type noProgram struct{}

// errorOf is the error of a reader that has given up. Any other panic is a mistake in the program itself, and is not to be hidden.
func errorOf(r any) api.Errno {
	if _, ok := r.(noProgram); !ok {
		panic(r)
	}
	return api.ErrCodeForm
}

// reader is what is left of some bytes. It gives up where no program goes on so.
type reader struct{ rest string }

func (r *reader) need(ok bool) {
	if !ok {
		panic(noProgram{})
	}
}

func (r *reader) bytes(count int64) string {
	r.need(count <= int64(len(r.rest)))
	s := r.rest[:count]
	r.rest = r.rest[count:]
	return s
}

// number reads as many bytes as size says. One of less than 8 is never below 0: no right program has such a number there.
func (r *reader) number(size int64) int64 {
	n := int64(0)
	for _, b := range []byte(r.bytes(size)) {
		n = n<<8 | int64(b)
	}
	return n
}

// text reads a text into memory of its own.
func (r *reader) text() string { return strings.Clone(r.bytes(r.number(4))) }

func (r *reader) flag() bool {
	n := r.number(1)
	r.need(n <= 1)
	return n == 1
}

// listOf reads how many there are, a number of so many bytes, and each of them. It makes no room for more than there may be, and than what is left can hold.
func listOf[T any](r *reader, size, most, least int64, one func(*reader) T) []T {
	count := r.number(size)
	r.need(count <= most && count <= int64(len(r.rest))/least)
	if count == 0 {
		return nil
	}
	all := make([]T, count)
	for n := range all {
		all[n] = one(r)
	}
	return all
}

func (r *reader) program() api.Program {
	var p api.Program
	r.need(r.bytes(int64(len(magic))) == magic)
	p.Main = int(r.number(4))
	p.Funcs = listOf(r, 4, api.MaxFuncs, leastFunc, (*reader).function)
	p.Prints = listOf(r, 4, api.MaxCode, leastPrint, (*reader).print)
	p.Arms = listOf(r, 4, api.MaxCode, leastSelect, (*reader).arms)
	r.need(r.rest == "")
	return p
}

func (r *reader) function() api.Func {
	var f api.Func
	f.Name = r.text()
	f.Params = int(r.number(1))
	f.Slots = int(r.number(2))
	f.Result = r.flag()
	f.Code = listOf(r, 4, api.MaxCode, leastIns, (*reader).instruction)
	return f
}

func (r *reader) instruction() api.Ins {
	var i api.Ins
	i.Op = api.Op(r.number(1))
	i.A = r.number(8)
	i.B = int(r.number(1))
	i.Line = int(r.number(4))
	return i
}

func (r *reader) print() []api.Item {
	return listOf(r, 1, api.MaxItems, leastItem, (*reader).item)
}

func (r *reader) item() api.Item {
	item := api.Item{Kind: api.ItemKind(r.number(1))}
	if item.Kind == api.ItemText {
		item.Text = r.text()
	}
	return item
}

func (r *reader) arms() []bool {
	return listOf(r, 1, api.MaxArms, leastArm, (*reader).flag)
}
