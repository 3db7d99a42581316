package snap

import (
	"tollgate/api"
	"tollgate/wire"
)

// Pieces cuts bytes in pieces.
func Pieces(b []byte, size int) ([][]byte, api.Errno) {
	if size < 1 {
		return nil, api.ErrArg
	}
	if len(b) > api.MaxSnap {
		return nil, api.ErrLimit
	}
	var pieces [][]byte
	at := 0
	for at < len(b) || len(pieces) == 0 {
		// The size may be any number: it is not added to.
		end := at + min(size, len(b)-at)
		ahead := addNumber(addNumber(nil, len(b)), at)
		pieces = append(pieces, append(ahead, b[at:end]...))
		at = end
	}
	return pieces, api.OK
}

// piece is what one tells: of how many bytes it is, where its own stand there, and these.
type piece struct {
	whole, place int
	bytes        []byte
}

func readPiece(b []byte) (piece, api.Errno) {
	whole, at, e := wire.TakeNumber(b, 0)
	if e != api.OK {
		return piece{}, e
	}
	place, at, e := wire.TakeNumber(b, at)
	if e != api.OK {
		return piece{}, e
	}
	if whole > api.MaxSnap {
		return piece{}, api.ErrLimit
	}
	p := piece{whole: whole, place: place, bytes: b[at:]}
	if place > whole-len(p.bytes) || len(p.bytes) == 0 && whole > 0 {
		return piece{}, api.ErrForm
	}
	return p, api.OK
}

// Gather is pieces that came.
type Gather struct {
	whole int // how many bytes there will be, as the first piece says
	bytes []byte
}

// NewGather is one to which nothing came.
func NewGather() *Gather { return &Gather{} }

// Add gathers a piece.
func (g *Gather) Add(piece []byte) (api.Snap, bool, api.Errno) {
	if g == nil {
		return api.Snap{}, false, api.ErrNil
	}
	p, e := readPiece(piece)
	if e != api.OK {
		return api.Snap{}, false, e
	}
	if p.place == 0 {
		*g = Gather{whole: p.whole}
	}
	if p.whole != g.whole || p.place != len(g.bytes) {
		return api.Snap{}, false, api.ErrStale
	}
	g.bytes = append(g.bytes, p.bytes...)
	if len(g.bytes) < g.whole {
		return api.Snap{}, false, api.OK
	}
	b := g.bytes
	*g = Gather{}
	s, e := Get(b)
	return s, e == api.OK, e
}

// Len is how many bytes are gathered.
func (g *Gather) Len() int {
	if g == nil {
		return 0
	}
	return len(g.bytes)
}
