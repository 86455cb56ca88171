package pack_test

import (
	"bytes"
	"math"
	"slices"
	"testing"

	"warren/pack"
	"warren/varint"
)

// dice throws numbers that are the same each time.
type dice uint32

// under is one below n.
func (d *dice) under(n int) int {
	*d = *d*1664525 + 1013904223
	return int(*d>>8) % n
}

// bits is one of at most so many bits.
func (d *dice) bits() uint64 {
	v := uint64(d.under(1<<24))<<40 | uint64(d.under(1<<24))<<16 | uint64(d.under(1<<16))
	return v >> d.under(65)
}

// field is one of the three: a number and a byte have v alone.
type field struct {
	kind int
	v    uint64
	b    []byte
}

// any is a field of some kind.
func (d *dice) any() field {
	switch kind := d.under(3); kind {
	case 0:
		return field{kind: kind, v: uint64(d.under(256))}
	case 1:
		return field{kind: kind, v: d.bits()}
	default:
		return field{kind: kind, b: some(d.under(1 + 1<<d.under(9)))}
	}
}

// put is a field behind bytes.
func put(b []byte, f field) []byte {
	switch f.kind {
	case 0:
		return pack.Byte(b, uint8(f.v))
	case 1:
		return pack.Num(b, f.v)
	default:
		return pack.Bytes(b, f.b)
	}
}

// same fails, unless a reader answers that field, of which a number is asked for with most.
func same(t *testing.T, r *pack.Reader, f field, most uint64) {
	t.Helper()
	switch f.kind {
	case 0:
		if c := r.Byte(); uint64(c) != f.v {
			t.Errorf("Byte: %d, not %d", c, f.v)
		}
	case 1:
		if v := r.Num(most); v != f.v {
			t.Errorf("Num(%d): %d, not %d", most, v, f.v)
		}
	default:
		if b := r.Bytes(int(most)); !bytes.Equal(b, f.b) {
			t.Errorf("Bytes(%d): %x, not %x", int(most), b, f.b)
		}
	}
}

// size is what must be asked for, at least, to get a field.
func (f field) size() uint64 {
	if f.kind == 2 {
		return uint64(len(f.b))
	}
	return f.v
}

// TestPutRead: PK3, rows of fields come out in their order, whatever stands behind; of a row that is cut only those ahead of the cut do.
func TestPutRead(t *testing.T) {
	d := dice(1)
	for range 2000 {
		var b []byte
		var row []field
		ends := []int{0}
		for range d.under(12) {
			f := d.any()
			b = put(b, f)
			row, ends = append(row, f), append(ends, len(b))
		}
		more := some(d.under(4))
		r := pack.New(slices.Concat(b, more))
		for i, f := range row {
			same(t, r, f, f.size())
			left(t, "behind a field", r, len(b)-ends[i+1]+len(more))
		}
		if len(b) == 0 {
			continue
		}
		cut := d.under(len(b))
		r = pack.New(b[:cut])
		for i, f := range row {
			if ends[i+1] > cut {
				same(t, r, field{kind: f.kind}, f.size())
				spoiled(t, "behind the cut", r)
				continue
			}
			same(t, r, f, f.size())
			left(t, "ahead of the cut", r, cut-ends[i+1])
		}
	}
}

// model is what a reader must do, told from the words alone: the fields are found by their lengths, out of all the bytes.
type model struct {
	b     []byte
	at    int
	wrong bool
}

// ask is a field of that kind, asked for with most.
func (m *model) ask(kind int, most uint64) field {
	f := field{kind: kind}
	v, n, err := varint.Get(m.b[m.at:])
	end := m.at + n
	switch {
	case m.wrong:
		return f
	case kind == 0 && m.at < len(m.b):
		f.v, end = uint64(m.b[m.at]), m.at+1
	case kind == 1 && err == nil && v <= most:
		f.v = v
	case kind == 2 && err == nil && v <= uint64(max(int(most), 0)) && v <= uint64(len(m.b)-end):
		f.b = m.b[end : end+int(v)]
		end += int(v)
	default:
		m.wrong, end = true, len(m.b)
	}
	m.at = end
	return f
}

// TestReaderModel: PK2, any bytes, asked for anything, as its words say.
func TestReaderModel(t *testing.T) {
	d := dice(2)
	for range 20000 {
		b := make([]byte, d.under(30))
		for i := range b {
			b[i] = []byte{0, 1, 2, 3, 5, 8, 127, 128, 129, 255, byte(d.under(256))}[d.under(11)]
		}
		r, m := pack.New(b), &model{b: b}
		for range 8 {
			kind, most := d.under(3), []uint64{0, 1, 2, 8, 127, 128, math.MaxInt64, 1 << 63, math.MaxUint64}[d.under(9)]
			same(t, r, m.ask(kind, most), most)
			if m.wrong {
				spoiled(t, "wrong", r)
			} else {
				left(t, "right", r, len(b)-m.at)
			}
			if t.Failed() {
				t.Fatalf("the bytes: %x", b)
			}
		}
	}
}
