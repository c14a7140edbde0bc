package parse

import (
	"drowse/api"
	"drowse/types"
)

// The directions of a channel, as types.Chan takes them.
const (
	both = iota
	toSend
	toReceive
)

// tooDeep stands for the text of a type of too many channels. It is no type's text, so types.Chan refuses a channel of it too: a type in which it stands is tooDeep itself.
const tooDeep = "too deep"

// typeText reads a type, and is its text.
func (p *parser) typeText() string {
	switch text := mark(p.look()); text {
	case "int", "bool", "Mutex", "WaitGroup":
		p.take()
		return text
	case "chan":
		p.take()
		if p.accept(arrow) {
			return channel(toSend, p.typeText())
		}
		return channel(both, p.typeText())
	case arrow:
		p.take()
		p.expect("chan")
		return channel(toReceive, p.typeText())
	case "(":
		p.take()
		inner := p.typeText()
		p.expect(")")
		return inner
	}
	panic(p.wrong())
}

func channel(dir int, elem string) string {
	text, e := types.Chan(dir, elem)
	if e != api.OK {
		return tooDeep
	}
	return text
}
