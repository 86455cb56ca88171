package keys_test

import (
	"errors"
	"strings"
	"testing"

	"warren/api"
	"warren/keys"
)

// TestCheck: KY1, each length to beyond 40 bytes, of whatever bytes.
func TestCheck(t *testing.T) {
	for _, b := range []string{"a", "\x00", "\x7f", "\x80", "\xff"} {
		for n := range 301 {
			checked(t, strings.Repeat(b, n), n >= 1 && n <= 40)
		}
	}
	checked(t, strings.Repeat("k", 2048), false)
	checked(t, strings.Repeat("k", 1<<16), false)
	checked(t, strings.Repeat("k", 1<<16+1), false)
}

// TestCheckBytes: KY1, bytes are counted, not letters.
func TestCheckBytes(t *testing.T) {
	checked(t, strings.Repeat("é", 20), true)
	checked(t, strings.Repeat("é", 20)+"e", false)
	checked(t, strings.Repeat("é", 40), false)
	checked(t, strings.Repeat("\xc3", 40), true)
}

// checked fails, unless Check answers nil for what may be a key, and ErrArg for what may not.
func checked(t *testing.T, key string, may bool) {
	t.Helper()
	err := keys.Check(key)
	if may && err != nil {
		t.Errorf("Check, of %d bytes: %v", len(key), err)
	}
	var no api.Errno
	if !may && (!errors.As(err, &no) || no != api.ErrArg) {
		t.Errorf("Check, of %d bytes: %v, not %v", len(key), err, api.ErrArg)
	}
}

// TestNext: KY1, the key and a byte 0, be it a key or not.
func TestNext(t *testing.T) {
	for _, key := range []string{"", "a", "ab", "\x00", "a\x00", "\xff", "é", strings.Repeat("k", 40), strings.Repeat("k", 4096)} {
		if got, want := keys.Next(key), strings.Join([]string{key, "\x00"}, ""); got != want {
			t.Errorf("Next(%q): %q", key, got)
		}
	}
}

// TestNextLeast: KY1, no text stands between a key and the next one.
func TestNextLeast(t *testing.T) {
	for _, key := range texts(2) {
		next := keys.Next(key)
		for _, text := range texts(3) {
			if (text > key) != (text >= next) {
				t.Errorf("Next(%q): %q, but there is %q", key, next, text)
			}
		}
	}
}
