package gen

import (
	"drowse/api"
	"drowse/check"
)

// noFile is what is given up with where a tree is no checked file, or too great a one.
type noFile struct{}

// errorOf is the error of what has given up. Any other panic is a mistake in the program itself, and is not to be hidden.
func errorOf(r any) api.Errno {
	if _, ok := r.(noFile); !ok {
		panic(r)
	}
	return api.ErrGenTree
}

func need(ok bool) {
	if !ok {
		panic(noFile{})
	}
}

// look gives up unless a tree is a file that a program can be made of. It is measured first: a tree whose kids share memory may have more nodes than check could ever go through.
func look(file *api.Node) {
	var s size
	s.measure(file)
	told, fault := check.Check(*file)
	need(fault == nil)
	needMarks(file, &told)
}

// size is how great a part of a tree is: how many nodes it has, and how many bytes of Texts.
type size struct{ nodes, texts int }

func (s *size) measure(n *api.Node) {
	s.nodes++
	if n.Kind == api.NodeText {
		s.texts += len(n.Text)
	}
	need(s.nodes <= api.MaxSource && s.texts <= api.MaxTexts)
	need(n.Line >= 0 && n.Line <= api.MaxCount)
	for i := range n.Kids {
		s.measure(&n.Kids[i])
	}
}

// needMarks gives up unless a node has the marks of what check tells of it, which is the same in all else.
func needMarks(n, told *api.Node) {
	need(n.Type == told.Type && n.Slot == told.Slot)
	for i := range n.Kids {
		needMarks(&n.Kids[i], &told.Kids[i])
	}
}
