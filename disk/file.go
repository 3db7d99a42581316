package disk

import "slices"

// file is what stands under a name.
type file struct {
	bytes   []byte
	sure    []byte
	lasts   bool // apart from sure: no bytes may last too
	changes []change
}

// change is a Write of bytes, or a Cut.
type change struct {
	isCut bool
	at    int // where the bytes of a Write begin; the size that a Cut leaves
	bytes []byte
}

// fresh is a copy without spare room, so that no answer's capacity tells how it was made.
func fresh(b []byte) []byte {
	all := append([]byte(nil), b...)
	return all[:len(all):len(all)]
}

// laid is b with other bytes over it from a place on; it may lie in b.
func laid(b []byte, at int, over []byte) []byte {
	n := copy(b[at:], over)
	return append(b, over[n:]...)
}

func (f *file) write(at int, b []byte) {
	f.bytes = laid(f.bytes, at, b)
	// Without units it changes nothing that a crash could leave.
	if len(b) > 0 {
		f.changes = append(f.changes, change{at: at, bytes: fresh(b)})
	}
}

func (f *file) cut(size int) {
	f.bytes = f.bytes[:size]
	f.changes = append(f.changes, change{isCut: true, at: size})
}

func (f *file) sync() {
	f.sure, f.lasts, f.changes = fresh(f.bytes), true, nil
}

func (c change) units() int {
	if c.isCut {
		return 1
	}
	return len(c.bytes)
}

// onto is what the first units of a change, one at least, make of b; it may lie in b.
func (c change) onto(b []byte, units int) []byte {
	if c.isCut {
		return b[:c.at]
	}
	return laid(b, c.at, c.bytes[:units])
}

// crash leaves what lasts and the first units of the changes; false: not even an empty file is left.
func (f *file) crash(units int) bool {
	left := units
	for _, c := range f.changes {
		if left == 0 {
			break
		}
		n := min(left, c.units())
		f.sure = c.onto(f.sure, n)
		left -= n
	}
	if !f.lasts && left == units {
		return false
	}
	f.bytes = fresh(f.sure)
	f.lasts, f.changes = true, nil
	return true
}

// fork shares the bytes of the changes alone: nobody writes to them any more.
func (f *file) fork() *file {
	return &file{bytes: fresh(f.bytes), sure: fresh(f.sure), lasts: f.lasts, changes: slices.Clone(f.changes)}
}
