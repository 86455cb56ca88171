package tree

import (
	"slices"

	"warren/api"
)

// Cell is an entry of a leaf, and the pages on which its long value lies; none, if it is not long, or lies nowhere yet.
type Cell struct {
	api.Entry
	Chain []int
}

// Page is where a node lies; 0: nowhere yet. Below one that lies somewhere all lies somewhere, long values too.
func (n Node) Page() int { return n.n.page }

// Laid are a leaf's cells, with where their long values lie; a branch has none.
func (n Node) Laid() []Cell { return copied(n.n.cells) }

// LeafAt is a leaf with cells, that lies on a page; its long values lie where the cells say.
func LeafAt(page int, cells []Cell) Node { return Node{node{page: page, cells: copied(cells)}} }

// BranchAt is a branch that lies on a page, with kids, and the keys between these.
func BranchAt(page int, keys []string, kids []Node) Node {
	n := node{page: page, keys: slices.Clone(keys)}
	for _, kid := range kids {
		n.kids = append(n.kids, &kid.n)
	}
	return Node{n}
}

// copied are cells that share no list with those handed in: trees share theirs, and must not be changed through one of them.
func copied(cells []Cell) []Cell {
	l := slices.Clone(cells)
	for i := range l {
		l[i].Chain = slices.Clone(l[i].Chain)
	}
	return l
}
