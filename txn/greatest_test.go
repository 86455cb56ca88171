package txn

import (
	"errors"
	"testing"

	"warren/api"
	"warren/pins"
)

// near is a room where that number was given last: to come there takes too long from outside.
func near(next uint64) *Room {
	r := Open(nil)
	r.readers.Next = next
	return r
}

// begun fails, unless a transaction begins by that number; 0: by none, with that error.
func begun(t *testing.T, r *Room, write bool, want uint64, no api.Errno) {
	t.Helper()
	id, err := r.Begin(write)
	var got api.Errno
	if errors.As(err, &got); id != want || got != no {
		t.Errorf("Begin(%v): %d, %v, not %d, %d", write, id, err, want, int(no))
	}
}

// TestGreatest: TX1, the greatest number is 2^62, of a writer as of a reader; behind it there is none.
func TestGreatest(t *testing.T) {
	for _, write := range []bool{false, true} {
		r := near(1<<62 - 2)
		begun(t, r, !write, 1<<62-1, 0)
		begun(t, r, write, 1<<62, 0)
		begun(t, r, false, 0, api.ErrFull)
		// That there is a writer is told ahead.
		begun(t, r, true, 0, api.ErrBusy)
		if _, err := r.Tree(1 << 62); err != nil || pins.Check(r.Readers()) != nil || r.Readers().Next != 1<<62 {
			t.Errorf("the last one: %v, %v", err, r.Readers())
		}
		for _, id := range []uint64{1<<62 - 1, 1 << 62} {
			var no api.Errno
			if !errors.As(r.Abort(id), &no) || no != api.ErrDown {
				t.Errorf("Abort: %d", int(no))
			}
		}
		begun(t, r, false, 0, api.ErrFull)
		begun(t, r, true, 0, api.ErrFull)
		if r.Writer() != 0 || r.Readers().Next != 1<<62 {
			t.Errorf("behind the last one: %d, %v", r.Writer(), r.Readers())
		}
	}
}
