package tree_test

import (
	"slices"
	"strings"
	"testing"

	"warren/api"
	"warren/tree"
)

// counter gives numbers to what is laid, one behind the other.
type counter int

// next is a number that was not given yet.
func (c *counter) next() int {
	*c++
	return int(*c)
}

// laid is a node, and all below it, with long values, on pages of their own.
func laid(n tree.Node, pages *counter) tree.Node {
	if n.IsLeaf() {
		cells := n.Laid()
		for i, c := range cells {
			if len(c.Value) > 64 {
				cells[i].Chain = []int{pages.next(), pages.next()}
			}
		}
		return tree.LeafAt(pages.next(), cells)
	}
	var kids []tree.Node
	for _, kid := range n.Kids() {
		kids = append(kids, laid(kid, pages))
	}
	return tree.BranchAt(pages.next(), n.Keys(), kids)
}

// content is what a node has, with all below it, but no pages.
func content(n tree.Node) string {
	text := strings.Join(n.Keys(), "|") + "("
	for _, c := range n.Cells() {
		text += c.Key + "=" + c.Value + ","
	}
	for _, kid := range n.Kids() {
		text += content(kid)
	}
	return text + ")"
}

// places are the pages of all nodes, by what they have, and those of all long values, by their keys.
type places struct {
	nodes  map[string]int
	chains map[string][]int
}

// add adds the places of a node, and of all below it.
func (p places) add(n tree.Node) {
	p.nodes[content(n)] = n.Page()
	for _, c := range n.Laid() {
		p.chains[c.Key] = c.Chain
	}
	for _, kid := range n.Kids() {
		p.add(kid)
	}
}

// placesOf are those of a tree.
func placesOf(u tree.Tree) places {
	p := places{map[string]int{}, map[string][]int{}}
	if n, ok := tree.Root(u); ok {
		p.add(n)
	}
	return p
}

// stays fails, unless all nodes of a tree that another one had, and all long values but that of a key, lie where they lay, and all else nowhere.
func stays(t *testing.T, was, is places, key string) {
	t.Helper()
	for text, page := range is.nodes {
		if page != was.nodes[text] {
			t.Fatalf("a node of %.200q lies at %d, not at %d", text, page, was.nodes[text])
		}
	}
	for other, pages := range is.chains {
		want := was.chains[other]
		if other == key {
			want = nil
		}
		if !slices.Equal(pages, want) {
			t.Fatalf("beside a change of %q, the value of %q lies at %v, not at %v", key, other, pages, want)
		}
	}
}

// TestPlacesStay: what is made of a tree that lies on pages has its nodes, and its long values, where they lay, as far as they are the same.
func TestPlacesStay(t *testing.T) {
	d := dice(3)
	for _, k := range kinds {
		u, l := thinned(t, k, &d)
		n := counter(0)
		on := tree.Over(laid(root(t, u), &n))
		has(t, on, l)
		was := placesOf(on)
		for _, e := range l {
			less, _ := tree.Delete(on, e.Key)
			stays(t, was, placesOf(less), "")
			stays(t, was, placesOf(put(t, on, e.Key, d.text(65, 70))), e.Key)
			same := put(t, on, e.Key, e.Value)
			stays(t, was, placesOf(same), "")
			if r := root(t, same); r.Page() != int(n) {
				t.Errorf("with the value that it had, a root lies at %d, not at %d", r.Page(), n)
			}
		}
		more := d.text(40, 40)
		stays(t, was, placesOf(put(t, on, more, d.text(65, 70))), more)
		for _, page := range placesOf(u).nodes {
			if page != 0 {
				t.Errorf("a node of a tree that was not laid lies at %d", page)
			}
		}
		stays(t, placesOf(on), was, "")
	}
}

// TestPlaceWritten: nodes and long values that lie on pages, written out; what is made without a page lies nowhere.
func TestPlaceWritten(t *testing.T) {
	long := strings.Repeat("y", 600)
	cells := []tree.Cell{{Entry: api.Entry{Key: "a", Value: "x"}}, {Entry: api.Entry{Key: "b", Value: long}, Chain: []int{5, 3}}}
	a, b := tree.LeafAt(7, cells), tree.Leaf(pairs("c", long))
	up := tree.BranchAt(9, []string{"c"}, []tree.Node{a, b})
	if a.Page() != 7 || b.Page() != 0 || up.Page() != 9 || (tree.Node{}).Page() != 0 || tree.Branch([]string{"c"}, up.Kids()).Page() != 0 {
		t.Errorf("Page: %d, %d, %d", a.Page(), b.Page(), up.Page())
	}
	if !a.IsLeaf() || up.IsLeaf() || !slices.Equal(up.Keys(), []string{"c"}) || a.Size() != 1+4+6 || up.Size() != 6 || up.Laid() != nil {
		t.Errorf("a leaf of %d bytes, a branch of %d: %v, %v, %q, %v", a.Size(), up.Size(), a.IsLeaf(), up.IsLeaf(), up.Keys(), up.Laid())
	}
	kids := up.Kids()
	if len(kids) != 2 || kids[0].Page() != 7 || kids[1].Page() != 0 {
		t.Fatalf("Kids: %d", len(kids))
	}
	for _, n := range []tree.Node{a, kids[0]} {
		l := n.Laid()
		if !slices.Equal(n.Cells(), pairs("a", "x", "b", long)) || len(l) != 2 || l[0].Entry != cells[0].Entry || l[1].Entry != cells[1].Entry || len(l[0].Chain) != 0 || !slices.Equal(l[1].Chain, []int{5, 3}) {
			t.Errorf("a leaf has %v", l)
		}
	}
	if l := kids[1].Laid(); len(l) != 1 || l[0].Key != "c" || l[0].Value != long || len(l[0].Chain) != 0 {
		t.Errorf("a leaf that lies nowhere has %v", l)
	}
	has(t, tree.Over(a), pairs("a", "x", "b", long))
}

// TestPlaceNew: what is answered is nobody else's, and what is handed in is not kept.
func TestPlaceNew(t *testing.T) {
	chain := []int{5, 3}
	cells := []tree.Cell{{Entry: api.Entry{Key: "a", Value: strings.Repeat("y", 600)}, Chain: chain}}
	n := tree.LeafAt(7, cells)
	chain[0] = 9
	cells[0].Key, cells[0].Chain = "b", nil
	for range 2 {
		l := n.Laid()
		if len(l) != 1 || l[0].Key != "a" || !slices.Equal(l[0].Chain, []int{5, 3}) {
			t.Fatalf("a leaf has %v", l)
		}
		clear(l[0].Chain[:cap(l[0].Chain)])
		clear(l[:cap(l)])
	}
	between, kids := []string{"c"}, []tree.Node{n, tree.Leaf(pairs("c", "3"))}
	up := tree.BranchAt(8, between, kids)
	clear(between)
	clear(kids)
	if !slices.Equal(up.Keys(), []string{"c"}) || len(up.Kids()) != 2 || up.Kids()[0].Page() != 7 {
		t.Errorf("a branch keeps what was handed in: %q", up.Keys())
	}
}
