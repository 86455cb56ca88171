package shape

import (
	"warren/api"
	"warren/fill"
	"warren/keys"
	"warren/tree"
)

// Check is an error, if a tree is not as it must be.
func Check(t tree.Tree) (err error) {
	defer func() {
		if fault := recover(); fault != nil {
			// Only must ends a look: any other panic is a mistake in here, and goes on.
			err = fault.(api.Errno)
		}
	}()
	if root, ok := tree.Root(t); ok {
		look(root, keys.Span{Open: true}, tree.Height(t))
	}
	return nil
}

// must ends the look, unless something is right.
func must(ok bool) {
	if !ok {
		panic(api.ErrCorrupt)
	}
}

// look goes through a node, whose keys are within a span, and all below it; leaves stand so many nodes deep from it on.
func look(n tree.Node, s keys.Span, deep int) {
	must(fill.Fits(n.Size()))
	if n.IsLeaf() {
		must(deep == 1)
		lookCells(n.Cells(), s)
	} else {
		lookKids(n.Keys(), n.Kids(), s, deep)
	}
}

// lookCells goes through a leaf's cells; even a root has some, as the empty tree has no nodes.
func lookCells(cells []api.Entry, s keys.Span) {
	must(len(cells) > 0)
	for _, c := range cells {
		must(mayLie(c) && keys.Has(s, c.Key))
		s.Lo = keys.Next(c.Key)
	}
}

// lookKids goes through a branch's kids, each within what the keys beside it let be.
func lookKids(between []string, kids []tree.Node, s keys.Span, deep int) {
	must(len(between) > 0 && len(kids) == len(between)+1)
	for i, kid := range kids {
		must(fill.Enough(kid.Size()))
		part := s
		if i < len(between) {
			must(keys.Check(between[i]) == nil && keys.Has(s, between[i]))
			part = keys.Span{Lo: s.Lo, Hi: between[i]}
			s.Lo = between[i]
		}
		look(kid, part, deep-1)
	}
}
