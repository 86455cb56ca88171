package keys

// Span is a span of keys: from Lo up to ahead of Hi; if it is Open, up to the end.
type Span struct {
	Lo   string
	Hi   string
	Open bool
}

// Has tells whether a key is within a span.
func Has(s Span, key string) bool {
	return key >= s.Lo && (s.Open || key < s.Hi)
}

// Empty tells whether no key is.
func Empty(s Span) bool { return !s.Open && s.Hi <= s.Lo }

// Of is the span of all keys that begin with a prefix.
func Of(prefix string) Span {
	n := len(prefix)
	// A last byte of 255 has none above it: the one ahead of it has to grow.
	for n > 0 && prefix[n-1] == 255 {
		n--
	}
	if n == 0 {
		return Span{Lo: prefix, Open: true}
	}
	hi := []byte(prefix[:n])
	hi[n-1]++
	return Span{Lo: prefix, Hi: string(hi)}
}

// Meet is what two spans have together.
func Meet(a, b Span) Span {
	lo := max(a.Lo, b.Lo)
	switch {
	case a.Open && b.Open:
		return Span{Lo: lo, Open: true}
	case a.Open:
		return Span{Lo: lo, Hi: b.Hi}
	case b.Open:
		return Span{Lo: lo, Hi: a.Hi}
	default:
		return Span{Lo: lo, Hi: min(a.Hi, b.Hi)}
	}
}

// Within tells whether all keys of a span are within another one.
func Within(a, b Span) bool {
	// A span without keys is within each, wherever it lies.
	if Empty(a) {
		return true
	}
	return !Empty(b) && a.Lo >= b.Lo && endsWithin(a, b)
}

// endsWithin tells whether a span ends no later than another one.
func endsWithin(a, b Span) bool {
	return b.Open || !a.Open && a.Hi <= b.Hi
}
