package tree

import (
	"sort"

	"warren/branch"
	"warren/leaf"
	"warren/varint"
)

// node is a leaf with cells, or a branch with kids, and the keys between these; it is never changed, for trees share it.
type node struct {
	page  int // where it lies, with all below it; 0: nowhere yet
	cells []Cell
	keys  []string
	kids  []*node
}

// isLeaf tells whether a node is a leaf.
func (n *node) isLeaf() bool { return len(n.kids) == 0 }

// besides is how many bytes a node's load has besides those of its cells, or keys.
func (n *node) besides() int {
	if n.isLeaf() {
		return varint.Size(uint64(len(n.cells)))
	}
	return branch.Size(nil)
}

// sizes are how many bytes each of a node's cells takes, or each of its keys with the page behind it.
func (n *node) sizes() []int {
	var l []int
	for _, c := range n.cells {
		l = append(l, leaf.Size(c.Key, len(c.Value)))
	}
	for _, key := range n.keys {
		l = append(l, branch.Size([]string{key})-branch.Size(nil))
	}
	return l
}

// size is how many bytes a node's load has.
func (n *node) size() int {
	size := n.besides()
	for _, more := range n.sizes() {
		size += more
	}
	return size
}

// find is the place of a key among cells, and whether it is there; else where it would be.
func find(cells []Cell, key string) (int, bool) {
	at := sort.Search(len(cells), func(i int) bool { return cells[i].Key >= key })
	return at, at < len(cells) && cells[at].Key == key
}

// spliced is a list with others in the place of so many of its own.
func spliced[T any](l []T, at, gone int, others []T) []T {
	// The piece ahead is bounded, so that what is put behind it is not written into the list, which others share.
	return append(append(l[:at:at], others...), l[at+gone:]...)
}
