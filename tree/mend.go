package tree

import (
	"slices"

	"warren/branch"
	"warren/fill"
)

// replaced is a node with other cells in the place of a key's, be that there or not.
// All that stands below it is right; it may itself have too many bytes, or too few.
func replaced(n *node, key string, others []Cell) *node {
	if !n.isLeaf() {
		at := branch.Way(n.keys, key)
		return mended(n, at, replaced(n.kids[at], key, others))
	}
	at, ok := find(n.cells, key)
	gone := 0
	if ok {
		gone = 1
	}
	return &node{cells: spliced(n.cells, at, gone, others)}
}

// mended is a branch with another kid at a place, which is joined with one beside it, if it has too few bytes.
func mended(n *node, at int, kid *node) *node {
	kids, gone := spliced(n.kids, at, 1, []*node{kid}), 1
	if !fill.Enough(kid.size()) {
		// A branch has two kids at least, so that there is one beside.
		at, gone = max(at-1, 0), 2
		kid = joined(kids[at], n.keys[at], kids[at+1])
	}
	parts, between := parted(kid)
	return &node{keys: spliced(n.keys, at, gone-1, between), kids: spliced(kids, at, gone, parts)}
}

// joined is one node of two that stand side by side, with the key between.
func joined(left *node, key string, right *node) *node {
	if left.isLeaf() {
		return &node{cells: slices.Concat(left.cells, right.cells)}
	}
	return &node{
		keys: slices.Concat(left.keys, []string{key}, right.keys),
		kids: slices.Concat(left.kids, right.kids),
	}
}

// parted is a node alone, if it fits, or else two, and the key between.
func parted(n *node) ([]*node, []string) {
	if fill.Fits(n.size()) {
		return []*node{n}, nil
	}
	// What one change leaves has at most 700 bytes, in things of at most 112, so that there is no error,
	// and both halves have enough: a branch's even without the key that goes up.
	at, _ := fill.Split(n.sizes(), n.besides())
	if n.isLeaf() {
		return []*node{{cells: n.cells[:at:at]}, {cells: n.cells[at:]}}, []string{n.cells[at].Key}
	}
	left := &node{keys: n.keys[:at:at], kids: n.kids[: at+1 : at+1]}
	right := &node{keys: n.keys[at+1:], kids: n.kids[at+1:]}
	return []*node{left, right}, []string{n.keys[at]}
}

// rooted is the root of a tree whose nodes stand below one that may have too many bytes, or too little to be needed; nil, if nothing is left.
func rooted(n *node) *node {
	kids, between := parted(n)
	root := &node{keys: between, kids: kids}
	// A branch over one kid parts nothing, so that this kid is the root.
	for len(root.kids) == 1 {
		root = root.kids[0]
	}
	if root.isLeaf() && len(root.cells) == 0 {
		return nil
	}
	return root
}
