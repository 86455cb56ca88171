package tree_test

import (
	"slices"
	"strings"
	"testing"

	"warren/api"
	"warren/tree"
)

// built is a node as it is, made anew from what is seen of it, and of all below it.
func built(n tree.Node) tree.Node {
	if n.IsLeaf() {
		return tree.Leaf(n.Cells())
	}
	var kids []tree.Node
	for _, kid := range n.Kids() {
		kids = append(kids, built(kid))
	}
	return tree.Branch(n.Keys(), kids)
}

// leaves hands the leaves from a node on downwards on, in order.
func leaves(n tree.Node, to func(tree.Node)) {
	if n.IsLeaf() {
		to(n)
	}
	for _, kid := range n.Kids() {
		leaves(kid, to)
	}
}

// root is that of a tree that is not empty.
func root(t *testing.T, u tree.Tree) tree.Node {
	t.Helper()
	n, ok := tree.Root(u)
	if !ok {
		t.Fatalf("Root, of %d entries: there is none", tree.Len(u))
	}
	return n
}

// TestNodes: what stands above sees all nodes of a tree, and makes one anew from them, which goes on as any other.
func TestNodes(t *testing.T) {
	for _, n := range []int{1, 2, 20, 60, 300, 1500, 4096} {
		l := many(n)
		u := of(t, l)
		var cells []api.Entry
		leaves(root(t, u), func(n tree.Node) { cells = append(cells, n.Cells()...) })
		if !slices.Equal(cells, l) {
			t.Errorf("the leaves of %d entries have %.200q", n, cells)
		}
		v := tree.Over(built(root(t, u)))
		has(t, v, l)
		if tree.Height(v) != tree.Height(u) {
			t.Errorf("of %d entries, a tree made anew has the height %d, not %d", n, tree.Height(v), tree.Height(u))
		}
		has(t, put(t, v, l[0].Key, "other"), slices.Concat([]api.Entry{{Key: l[0].Key, Value: "other"}}, l[1:]))
		less, _ := tree.Delete(v, l[n-1].Key)
		has(t, less, l[:n-1])
		has(t, v, l)
		has(t, u, l)
	}
}

// TestNoNodes: the empty tree has no root, and beside that there is nothing.
func TestNoNodes(t *testing.T) {
	gone, _ := tree.Delete(of(t, many(1)), many(1)[0].Key)
	for _, u := range []tree.Tree{{}, of(t, nil), gone} {
		n, ok := tree.Root(u)
		if ok || !n.IsLeaf() || n.Cells() != nil || n.Keys() != nil || n.Kids() != nil {
			t.Errorf("Root of the empty tree: %v, %v", n, ok)
		}
	}
}

// TestNodeWritten: a leaf and a branch, written out: what they have, and how many bytes, is as the words say.
func TestNodeWritten(t *testing.T) {
	a := tree.Leaf(pairs("a", "xy", "b", strings.Repeat("y", 65)))
	b := tree.Leaf(pairs("cc", strings.Repeat("z", 128)))
	up := tree.Branch([]string{"c"}, []tree.Node{a, b})
	if !a.IsLeaf() || !slices.Equal(a.Cells(), pairs("a", "xy", "b", strings.Repeat("y", 65))) || len(a.Keys()) != 0 || len(a.Kids()) != 0 {
		t.Errorf("a leaf has %q, %q, %v", a.Cells(), a.Keys(), a.Kids())
	}
	kids := up.Kids()
	if up.IsLeaf() || len(up.Cells()) != 0 || !slices.Equal(up.Keys(), []string{"c"}) || len(kids) != 2 {
		t.Fatalf("a branch has %q, %q, %d kids", up.Cells(), up.Keys(), len(kids))
	}
	for i, want := range []tree.Node{a, b} {
		if !kids[i].IsLeaf() || !slices.Equal(kids[i].Cells(), want.Cells()) {
			t.Errorf("kid %d has %q", i, kids[i].Cells())
		}
	}
	for _, sized := range []struct {
		node tree.Node
		size int
	}{{tree.Node{}, 1}, {a, 1 + 5 + 5}, {b, 1 + 3 + 4}, {up, 2 + 4}, {tree.Branch([]string{"c", "dd"}, []tree.Node{a, b, b}), 2 + 4 + 5}} {
		if got := sized.node.Size(); got != sized.size {
			t.Errorf("Size: %d, not %d", got, sized.size)
		}
	}
	u := tree.Over(up)
	if !slices.Equal(tree.All(u), slices.Concat(a.Cells(), b.Cells())) || tree.Len(u) != 3 || tree.Height(u) != 2 {
		t.Errorf("Over: %.80q, %d entries, height %d", tree.All(u), tree.Len(u), tree.Height(u))
	}
}

// TestNodeSizes: a leaf counts its cells in a second byte from 128 on.
func TestNodeSizes(t *testing.T) {
	var l []api.Entry
	for n := range 140 {
		want := 1 + 3*n
		if n > 127 {
			want++
		}
		if got := tree.Leaf(l).Size(); got != want {
			t.Errorf("Size of a leaf with %d cells: %d, not %d", n, got, want)
		}
		l = append(l, api.Entry{Key: string([]byte{byte(n)})})
	}
}

// TestNodesNew: what is answered is nobody else's, and what is handed in is not kept.
func TestNodesNew(t *testing.T) {
	l := many(700)
	u := of(t, l)
	leaves(root(t, u), func(n tree.Node) {
		cells := n.Cells()
		clear(cells[:cap(cells)])
	})
	between, kids := root(t, u).Keys(), root(t, u).Kids()
	clear(between[:cap(between)])
	clear(kids[:cap(kids)])
	has(t, u, l)

	cells := pairs("a", "1", "b", "2")
	left := tree.Leaf(cells)
	clear(cells)
	between, kids = []string{"c"}, []tree.Node{left, tree.Leaf(pairs("c", "3"))}
	up := tree.Branch(between, kids)
	clear(between)
	clear(kids)
	if !slices.Equal(up.Keys(), []string{"c"}) || !slices.Equal(tree.All(tree.Over(up)), pairs("a", "1", "b", "2", "c", "3")) {
		t.Errorf("a branch keeps what was handed in: %q, %q", up.Keys(), tree.All(tree.Over(up)))
	}
}
