package plan

import (
	"slices"

	"warren/branch"
	"warren/chain"
	"warren/leaf"
	"warren/sheet"
	"warren/tree"
)

// laying is a tree on its way onto pages: those that are left for it, and what is to be written on those that were taken.
// A tree's nodes and values are such as their layers take, so that none of these has an error.
type laying struct {
	pages  []int
	writes []Write
}

// write takes a page for a load, and answers it.
func (l *laying) write(kind uint8, load []byte) int {
	page := l.pages[0]
	l.pages = l.pages[1:]
	b, _ := sheet.Seal(kind, load)
	l.writes = append(l.writes, Write{Page: page, Bytes: b})
	return page
}

// node is a node that lies on a page, as all below it.
func (l *laying) node(n tree.Node) tree.Node {
	switch {
	case lies(n):
		return n
	case n.IsLeaf():
		return l.leaf(n.Laid())
	default:
		return l.branch(n.Keys(), n.Kids())
	}
}

// leaf is a leaf of such cells that lies on a page, behind the long values that it names.
func (l *laying) leaf(cells []tree.Cell) tree.Node {
	var named []leaf.Cell
	for i, c := range cells {
		if waits(c) {
			c.Chain = l.chain(c.Value)
			cells[i] = c
		}
		named = append(named, cellOf(c))
	}
	load, _ := leaf.Encode(named)
	return tree.LeafAt(l.write(sheet.Leaf, load), cells)
}

// cellOf is a cell as its leaf's page has it.
func cellOf(c tree.Cell) leaf.Cell {
	if isLong(c) {
		return leaf.Cell{Key: c.Key, Long: len(c.Value), Page: c.Chain[0]}
	}
	return leaf.Cell{Key: c.Key, Long: len(c.Value), Value: c.Value}
}

// branch is a branch of such keys and kids that lies on a page, behind the kids.
func (l *laying) branch(keys []string, kids []tree.Node) tree.Node {
	f := branch.Fork{Keys: keys}
	for i, kid := range kids {
		kids[i] = l.node(kid)
		f.Kids = append(f.Kids, kids[i].Page())
	}
	load, _ := branch.Encode(f)
	return tree.BranchAt(l.write(sheet.Branch, load), keys, kids)
}

// chain are the pages of a long value, in order. It is laid from its end on, as a piece tells at which page the next one lies.
func (l *laying) chain(value string) []int {
	pieces := chain.Pieces(value)
	pages := make([]int, len(pieces))
	next := 0
	for i, piece := range slices.Backward(pieces) {
		load, _ := chain.Encode(next, piece)
		next = l.write(sheet.Chain, load)
		pages[i] = next
	}
	return pages
}
