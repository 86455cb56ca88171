package tree

import "fmt"

// look goes through a tree's nodes, and holds them against what the words say.
type look struct {
	deep  int // nodes above one another down to a leaf; 0: no leaf was seen
	cells int
	most  int // cells of one leaf
	last  string
	fault string
}

// Fault is what is not right with a tree's nodes; the empty text, if all is.
func Fault(t Tree) string {
	l := &look{}
	if t.root != nil {
		l.node(t.root, 1)
	}
	l.unless(l.cells == t.count, "there are %d cells, and Len says %d", l.cells, Len(t))
	l.unless(l.deep == Height(t), "leaves stand at %d, and Height says %d", l.deep, Height(t))
	return l.fault
}

// Widest is how many cells the leaf with the most of them has.
func Widest(t Tree) int {
	l := &look{}
	if t.root != nil {
		l.node(t.root, 1)
	}
	return l.most
}

// Other is how many nodes of a tree another one has not.
func Other(t, of Tree) int {
	had := map[*node]bool{}
	each(of.root, func(n *node) { had[n] = true })
	other := 0
	each(t.root, func(n *node) {
		if !had[n] {
			other++
		}
	})
	return other
}

// each hands a node, and all below it, on.
func each(n *node, to func(*node)) {
	if n == nil {
		return
	}
	to(n)
	for _, kid := range n.kids {
		each(kid, to)
	}
}

// unless keeps the first fault.
func (l *look) unless(ok bool, format string, args ...any) {
	if !ok && l.fault == "" {
		l.fault = fmt.Sprintf(format, args...)
	}
}

// node goes through a node, above which so many stand, less one.
func (l *look) node(n *node, deep int) {
	if len(n.kids) == 0 {
		l.leaf(n, deep)
		return
	}
	l.unless(len(n.cells) == 0 && len(n.keys) > 0 && len(n.kids) == len(n.keys)+1, "a branch has %d cells, %d keys, %d kids", len(n.cells), len(n.keys), len(n.kids))
	size := 2
	for i, kid := range n.kids {
		l.node(kid, deep+1)
		if i == len(n.keys) {
			continue
		}
		key := n.keys[i]
		size += 3 + len(key)
		l.unless(len(key) >= 1 && len(key) <= 40, "a branch has the key %q", key)
		// What lies ahead is below the key, what lies behind is not.
		l.unless(l.last < key, "behind %q stands a branch's key %q", l.last, key)
		l.unless(key <= first(n.kids[i+1]), "ahead of %q stands a branch's key %q", first(n.kids[i+1]), key)
	}
	l.fits(size, deep)
}

// first is the least key below a node.
func first(n *node) string {
	for len(n.kids) > 0 {
		n = n.kids[0]
	}
	if len(n.cells) == 0 {
		return ""
	}
	return n.cells[0].Key
}

// leaf goes through a leaf.
func (l *look) leaf(n *node, deep int) {
	l.unless(l.deep == 0 || l.deep == deep, "leaves stand at %d and at %d", l.deep, deep)
	l.deep = deep
	l.unless(len(n.cells) > 0 && len(n.keys) == 0, "a leaf has %d cells, %d keys", len(n.cells), len(n.keys))
	size := 1
	if len(n.cells) > 127 {
		size = 2
	}
	for _, c := range n.cells {
		l.unless(c.Key > l.last && len(c.Key) <= 40 && len(c.Value) <= 2048, "behind %q stands a cell of %q", l.last, c.Key)
		l.last = c.Key
		size += 1 + len(c.Key) + 1
		switch {
		case len(c.Value) > 127:
			size += 1 + 2
		case len(c.Value) > 64:
			size += 2
		default:
			size += len(c.Value)
		}
	}
	l.cells += len(n.cells)
	l.most = max(l.most, len(n.cells))
	l.fits(size, deep)
}

// fits holds a node's bytes against enough, and against a load.
func (l *look) fits(size, deep int) {
	l.unless(size <= 504 && (size >= 126 || deep == 1), "a node at %d has %d bytes", deep, size)
}
