package code

import "drowse/api"

// operand is what an instruction's number A may be.
type operand uint8

const (
	zero operand = iota
	number
	slot
	target // an instruction at which it goes on
	function
	arms
	items
)

// row is what an instruction's name alone says of it. What it takes and gives hangs on what A names, where that is a function, a print or a select: such a row tells the part that does not.
type row struct {
	a            operand
	takes, gives uint8
	stops        bool // it does not go on at the next one
}

var table = [...]row{
	api.OpBeat:     {},
	api.OpInt:      {a: number, gives: 1},
	api.OpNil:      {gives: 1},
	api.OpLoad:     {a: slot, gives: 1},
	api.OpStore:    {a: slot, takes: 1},
	api.OpClear:    {a: slot},
	api.OpPop:      {takes: 1},
	api.OpAdd:      {takes: 2, gives: 1},
	api.OpSub:      {takes: 2, gives: 1},
	api.OpMul:      {takes: 2, gives: 1},
	api.OpDiv:      {takes: 2, gives: 1},
	api.OpRem:      {takes: 2, gives: 1},
	api.OpNeg:      {takes: 1, gives: 1},
	api.OpNot:      {takes: 1, gives: 1},
	api.OpEq:       {takes: 2, gives: 1},
	api.OpNe:       {takes: 2, gives: 1},
	api.OpLt:       {takes: 2, gives: 1},
	api.OpLe:       {takes: 2, gives: 1},
	api.OpGt:       {takes: 2, gives: 1},
	api.OpGe:       {takes: 2, gives: 1},
	api.OpJump:     {a: target, stops: true},
	api.OpIf:       {a: target, takes: 1},
	api.OpUnless:   {a: target, takes: 1},
	api.OpCall:     {a: function},
	api.OpGo:       {a: function},
	api.OpRet:      {stops: true},
	api.OpRetValue: {takes: 1, stops: true},
	api.OpMutex:    {gives: 1},
	api.OpGroup:    {gives: 1},
	api.OpChan:     {takes: 1, gives: 1},
	api.OpSend:     {takes: 2},
	api.OpRecv:     {takes: 1, gives: 1},
	api.OpRecv2:    {takes: 1, gives: 2},
	api.OpClose:    {takes: 1},
	api.OpLen:      {takes: 1, gives: 1},
	api.OpCap:      {takes: 1, gives: 1},
	api.OpLock:     {takes: 1},
	api.OpUnlock:   {takes: 1},
	api.OpCount:    {takes: 2},
	api.OpWait:     {takes: 1},
	api.OpSelect:   {a: arms, gives: 3},
	api.OpYield:    {},
	api.OpPrint:    {a: items},
}

// known tells whether an instruction's name is one of the table's.
func known(op api.Op) bool { return op > api.OpNone && int(op) < len(table) }

// within tells whether a is one of the numbers from 0 on of which there are count.
func within(a int64, count int) bool { return a >= 0 && a < int64(count) }

// named tells whether the function, the print or the select that an instruction speaks of is there; it is so of one that speaks of none.
func named(p api.Program, i api.Ins) bool {
	switch table[i.Op].a {
	case function:
		return within(i.A, len(p.Funcs))
	case arms:
		return within(i.A, len(p.Arms))
	case items:
		return within(i.A, len(p.Prints))
	}
	return true
}

// Effect is how many values an instruction takes off the stack, and how many it puts there.
func Effect(p api.Program, i api.Ins) (int, int) {
	if !known(i.Op) || !named(p, i) {
		return 0, 0
	}
	takes, gives := int(table[i.Op].takes), int(table[i.Op].gives)
	switch i.Op {
	case api.OpCall:
		takes = p.Funcs[i.A].Params
		if p.Funcs[i.A].Result {
			gives = 1
		}
	case api.OpGo:
		takes = p.Funcs[i.A].Params
	case api.OpSelect:
		takes = armValues(p.Arms[i.A])
	case api.OpPrint:
		takes = itemValues(p.Prints[i.A])
	}
	return takes, gives
}

// armValues is how many values a select takes: a channel for each arm, and what is sent for each that sends.
func armValues(list []bool) int {
	count := len(list)
	for _, sends := range list {
		if sends {
			count++
		}
	}
	return count
}

// itemValues is how many values a print takes.
func itemValues(list []api.Item) int {
	count := 0
	for _, item := range list {
		if item.Kind == api.ItemInt || item.Kind == api.ItemBool {
			count++
		}
	}
	return count
}
