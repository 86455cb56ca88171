package load

import (
	"warren/api"
	"warren/branch"
	"warren/chain"
	"warren/fill"
	"warren/keys"
	"warren/leaf"
	"warren/sheet"
	"warren/tree"
)

const (
	firstPage = 2            // the least one that a tree may lie on: the heads have those ahead
	pieceSize = api.Load - 2 // bytes of a long value's piece on each page but the last one
)

// reading is a tree on its way out of pages.
type reading struct {
	pages [][]byte
	seen  [api.MaxPages]bool // each page is of one node, or of one long value, at most
	deep  int                // how many nodes stand above one another down to a leaf; 0: none was read yet
}

// tree is the one from a root on; 0: the empty one.
func (r *reading) tree(root int) tree.Tree {
	if root == 0 {
		return tree.Tree{}
	}
	return tree.Over(r.node(root, keys.Span{Open: true}, 1))
}

// page are the kind and the load of a page that was not read yet.
func (r *reading) page(at int) (uint8, []byte) {
	must(at >= firstPage && at < len(r.pages) && !r.seen[at])
	r.seen[at] = true
	kind, load, err := sheet.Open(r.pages[at])
	must(err == nil)
	return kind, load
}

// node is the one on a page, with all below it, whose keys lie within a span; so many nodes stand above one another down to it.
func (r *reading) node(at int, s keys.Span, deep int) tree.Node {
	kind, load := r.page(at)
	if kind == sheet.Leaf {
		return tree.LeafAt(at, r.cells(load, s, deep))
	}
	must(kind == sheet.Branch)
	f, err := branch.Decode(load)
	must(err == nil)
	return tree.BranchAt(at, f.Keys, r.kids(f, s, deep))
}

// kids are those of a fork, each within what the keys beside it let be.
func (r *reading) kids(f branch.Fork, s keys.Span, deep int) []tree.Node {
	var kids []tree.Node
	for i, page := range f.Kids {
		part := s
		if i < len(f.Keys) {
			key := f.Keys[i]
			must(keys.Has(s, key))
			part = keys.Span{Lo: s.Lo, Hi: key}
			s.Lo = key
		}
		kid := r.node(page, part, deep+1)
		must(fill.Enough(kid.Size()))
		kids = append(kids, kid)
	}
	return kids
}

// cells are those of a leaf's load, with their long values; even a root has some, as the empty tree has no nodes.
func (r *reading) cells(load []byte, s keys.Span, deep int) []tree.Cell {
	if r.deep == 0 {
		r.deep = deep
	}
	must(deep == r.deep)
	named, err := leaf.Decode(load)
	must(err == nil && len(named) > 0)
	var cells []tree.Cell
	for _, c := range named {
		must(keys.Has(s, c.Key))
		cells = append(cells, r.cell(c))
	}
	return cells
}

// cell is one of a leaf, with the value that its leaf has, or else with the one that lies where the leaf says.
func (r *reading) cell(c leaf.Cell) tree.Cell {
	cell := tree.Cell{Entry: api.Entry{Key: c.Key, Value: c.Value}}
	if c.Long > api.Inline {
		cell.Value, cell.Chain = r.value(c.Page, c.Long)
	}
	return cell
}

// value is the one of so many bytes that lies from a page on, and all its pages, in order.
func (r *reading) value(at, long int) (string, []int) {
	value := ""
	var pages []int
	for len(value) < long {
		kind, load := r.page(at)
		must(kind == sheet.Chain)
		next, piece, err := chain.Decode(load)
		must(err == nil && len(piece) == min(pieceSize, long-len(value)))
		value += piece
		pages = append(pages, at)
		at = next
	}
	must(at == 0)
	return value, pages
}
