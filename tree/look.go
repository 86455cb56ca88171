package tree

import (
	"slices"

	"warren/api"
)

// Node is a node as those above see it, and make it: a leaf with cells, or a branch with kids. The zero one is a leaf without cells.
type Node struct{ n node }

// Root is the root of a tree; false: it is empty, and has no nodes.
func Root(t Tree) (Node, bool) {
	if t.root == nil {
		return Node{}, false
	}
	return Node{*t.root}, true
}

// IsLeaf tells whether a node is a leaf.
func (n Node) IsLeaf() bool { return n.n.isLeaf() }

// Size is how many bytes its load has.
func (n Node) Size() int { return n.n.size() }

// Cells are a leaf's; a branch has none.
func (n Node) Cells() []api.Entry { return withCells(nil, n.n.cells) }

// Keys are those between a branch's kids; a leaf has none.
func (n Node) Keys() []string { return slices.Clone(n.n.keys) }

// Kids are a branch's; a leaf has none.
func (n Node) Kids() []Node {
	var l []Node
	for _, kid := range n.n.kids {
		l = append(l, Node{*kid})
	}
	return l
}

// Leaf is a leaf with cells, that lies on no page.
func Leaf(cells []api.Entry) Node {
	var l []Cell
	for _, e := range cells {
		l = append(l, Cell{Entry: e})
	}
	return LeafAt(0, l)
}

// Branch is a branch that lies on no page, with kids, and the keys between these.
func Branch(keys []string, kids []Node) Node { return BranchAt(0, keys, kids) }

// Over is the tree with a root. Nodes are taken as they are: who makes them sees to it that the tree is right.
// Of one that is not, nothing may be asked but what stands in this file and in place.go, Len, All and Height, and what shape tells of it.
func Over(root Node) Tree {
	t := Tree{root: &root.n}
	t.count = len(gathered(nil, t.root))
	return t
}
