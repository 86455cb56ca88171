package load_test

import (
	"bytes"
	"math"
	"strconv"
	"strings"

	"warren/api"
	"warren/bitset"
	"warren/tree"
)

// sum is that of bytes, bit by bit, as chapter 2 tells it.
func sum(b []byte) uint32 {
	sum := uint32(math.MaxUint32)
	for _, c := range b {
		sum ^= uint32(c)
		for range 8 {
			went := sum & 1
			sum >>= 1
			if went == 1 {
				sum ^= 0x82f63b78
			}
		}
	}
	return ^sum
}

// summed are bytes with their sum behind.
func summed(b []byte) []byte {
	s := sum(b)
	return append(b[:len(b):len(b)], byte(s>>24), byte(s>>16), byte(s>>8), byte(s))
}

// sealed is a page of a kind with a load, as chapter 5 tells it.
func sealed(kind byte, load []byte) []byte {
	b := append([]byte{kind, 0, byte(len(load) >> 8), byte(len(load))}, load...)
	return summed(append(b, make([]byte, 508-len(b))...))
}

// loadOf is what a page holds that is right.
func loadOf(page []byte) []byte { return page[4 : 4+int(page[2])<<8+int(page[3])] }

// none is what a second reader ends by, where no tree lies.
type none struct{}

// lies ends reading, unless something is as the words say.
func lies(ok bool) {
	if !ok {
		panic(none{})
	}
}

// ref is where a page's number stands: from which byte on of which page.
type ref struct{ page, at int }

// reader is a second one, that reads a tree out of pages as chapters 3, 5, 8, 9, 10 and 21 tell it.
type reader struct {
	pages [][]byte
	used  bitset.Set
	refs  []ref
	list  []api.Entry
	deep  int             // nodes above one another down to a leaf; 0: no leaf was read
	text  strings.Builder // which node lies where, with which keys
}

// read is what a second reader finds from a root on; false: there lies no tree.
func read(pages [][]byte, root int) (r *reader, ok bool) {
	defer func() {
		if fault := recover(); fault != nil {
			_, wrong := fault.(none)
			if !wrong {
				panic(fault)
			}
			ok = false
		}
	}()
	r = &reader{pages: pages}
	if root != 0 {
		r.node(root, 1, "", "")
	}
	return r, true
}

// fields are those of a page's load.
type fields struct {
	page int
	kind byte
	load []byte
	at   int
}

// open are those of a page out of which nothing was read yet.
func (r *reader) open(at int) *fields {
	lies(at >= 2 && at < len(r.pages) && !bitset.Has(r.used, at))
	r.used = bitset.With(r.used, at)
	b := r.pages[at]
	lies(len(b) == 512 && b[0] >= 1 && b[0] <= 5)
	n := int(b[2])<<8 + int(b[3])
	lies(n <= 504 && bytes.Equal(b, sealed(b[0], b[4:4+n])))
	return &fields{page: at, kind: b[0], load: b[4 : 4+n]}
}

// left is how many bytes were not taken yet.
func (f *fields) left() int { return len(f.load) - f.at }

// take are the next bytes, so many.
func (f *fields) take(n int) []byte {
	lies(n <= f.left())
	f.at += n
	return f.load[f.at-n : f.at]
}

// num is the next number, which is at most so many.
func (f *fields) num(most int) int {
	n := 0
	for shift := 0; ; shift += 7 {
		lies(shift <= 21)
		c := f.take(1)[0]
		n += int(c&127) << shift
		if c < 128 {
			lies(n <= most && (c > 0 || shift == 0))
			return n
		}
	}
}

// key is the next key.
func (f *fields) key() string {
	n := f.num(40)
	lies(n >= 1)
	return string(f.take(n))
}

// named is the page whose number comes next.
func (r *reader) named(f *fields) int {
	r.refs = append(r.refs, ref{f.page, 4 + f.at})
	two := f.take(2)
	return int(two[0])<<8 + int(two[1])
}

// tell tells how it lies, in words that are the same for the same.
func (r *reader) tell(words ...string) {
	for _, w := range words {
		r.text.WriteString(w)
	}
}

// node reads a node, so many of which stand above one another; its keys are from one on, and below another one, if that is not "".
func (r *reader) node(at, deep int, from, to string) {
	f := r.open(at)
	lies(deep == 1 || len(f.load) >= 126)
	r.tell(strconv.Itoa(at))
	if f.kind == 2 {
		r.branch(f, deep, from, to)
		return
	}
	lies(f.kind == 1 && (r.deep == 0 || r.deep == deep))
	r.deep = deep
	r.leaf(f, from, to)
}

// branch reads what a branch holds, and all below it.
func (r *reader) branch(f *fields, deep int, from, to string) {
	r.tell("(")
	kid, first := r.named(f), true
	lies(f.left() > 0)
	for f.left() > 0 {
		key := f.key()
		lies(key > from || first && key == from)
		lies(to == "" || key < to)
		r.node(kid, deep+1, from, key)
		r.tell(strconv.Quote(key))
		kid, from, first = r.named(f), key, false
	}
	r.node(kid, deep+1, from, to)
	r.tell(")")
}

// leaf reads what a leaf holds.
func (r *reader) leaf(f *fields, from, to string) {
	r.tell("[")
	n, last := f.num(504), ""
	lies(n > 0)
	for range n {
		key := f.key()
		lies(key > last && key >= from && (to == "" || key < to))
		r.tell(strconv.Quote(key))
		long, value := f.num(2048), ""
		if long > 64 {
			value = r.chain(r.named(f), long)
		} else {
			value = string(f.take(long))
		}
		r.list = append(r.list, api.Entry{Key: key, Value: value})
		last = key
	}
	lies(f.left() == 0)
	r.tell("]")
}

// chain reads a value of so many bytes, from a page on.
func (r *reader) chain(at, long int) string {
	value := ""
	for len(value) < long {
		f := r.open(at)
		r.tell(",", strconv.Itoa(at))
		lies(f.kind == 3)
		at = r.named(f)
		lies(f.left() == min(502, long-len(value)))
		value += string(f.take(f.left()))
	}
	lies(at == 0)
	return value
}

// told is how a tree says that it lies, in the words of a second reader.
func told(u tree.Tree) string {
	root, ok := tree.Root(u)
	if !ok {
		return ""
	}
	return toldOf(root)
}

// toldOf is how a node says that it lies, and all below it.
func toldOf(n tree.Node) string {
	text := strconv.Itoa(n.Page())
	if n.IsLeaf() {
		text += "["
		for _, c := range n.Laid() {
			text += strconv.Quote(c.Key)
			for _, page := range c.Chain {
				text += "," + strconv.Itoa(page)
			}
		}
		return text + "]"
	}
	text += "("
	between := n.Keys()
	for i, kid := range n.Kids() {
		if i > 0 {
			text += strconv.Quote(between[i-1])
		}
		text += toldOf(kid)
	}
	return text + ")"
}
