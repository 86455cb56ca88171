package chain

import (
	"warren/api"
	"warren/ints"
)

// Encode is a piece as a load, with the page at which the value goes on.
func Encode(next int, piece string) ([]byte, error) {
	if !isNext(next) || !isPiece(len(piece)) {
		return nil, api.ErrArg
	}
	return append(ints.Put(nil, uint64(next), pageSize), piece...), nil
}

// Decode is the page at which the value goes on, and the piece, of a load.
func Decode(b []byte) (int, string, error) {
	if !isPiece(len(b) - pageSize) {
		return 0, "", api.ErrForm
	}
	// Two bytes are a number whatever they are, so that there is no error.
	page, _ := ints.Get(b[:pageSize])
	if !isNext(int(page)) {
		return 0, "", api.ErrForm
	}
	return int(page), string(b[pageSize:]), nil
}

// isNext tells whether a value may go on at a page, or, if that is 0, nowhere.
func isNext(page int) bool {
	return page == 0 || page >= firstPage && page < api.MaxPages
}

// isPiece tells whether a piece may have so many bytes.
func isPiece(size int) bool { return size >= 1 && size <= pieceSize }
