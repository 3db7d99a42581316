package snap

import (
	"cmp"
	"slices"
	"strconv"
	"strings"

	"tollgate/api"
	"tollgate/disk"
)

const (
	namesBegin = "snap-"
	spare      = "snap.tmp"
)

// file is a snapshot's: the index decides, since 12 comes behind 3 though its name does not.
type file struct {
	name  string
	index int
}

func fileOf(index int) file { return file{name: namesBegin + strconv.Itoa(index), index: index} }

// filesOf are the snapshots' files among those names, the newest one first.
func filesOf(names []string) []file {
	var files []file
	for _, name := range names {
		index, err := strconv.Atoi(strings.TrimPrefix(name, namesBegin))
		f := file{name: name, index: index}
		// Made anew it must be the same: a nought ahead makes another name.
		if err == nil && isPositive(index) && f == fileOf(index) {
			files = append(files, f)
		}
	}
	slices.SortFunc(files, func(a, b file) int { return cmp.Compare(b.index, a.index) })
	return files
}

// Save keeps a snapshot.
func Save(d *disk.Disk, s api.Snap) api.Errno {
	if d == nil {
		return api.ErrNil
	}
	b, e := Put(s)
	if e != api.OK {
		return e
	}
	// What a crash left there may be longer than what is written over it.
	d.Remove(spare)
	if e := keep(d, fileOf(s.Mark.Index), b); e != api.OK {
		d.Remove(spare)
		return e
	}
	return api.OK
}

// keep removes the elder files last: until then one of them is whole, whatever a crash leaves.
func keep(d *disk.Disk, kept file, b []byte) api.Errno {
	if e := d.Write(spare, 0, b); e != api.OK {
		return e
	}
	if e := d.Sync(spare); e != api.OK {
		return e
	}
	if e := d.Rename(spare, kept.name); e != api.OK {
		return e
	}
	for _, f := range filesOf(d.Names()) {
		if f.index >= kept.index {
			continue
		}
		if e := d.Remove(f.name); e != api.OK {
			return e
		}
	}
	return api.OK
}

// Load is the newest snapshot that is whole.
func Load(d *disk.Disk) (api.Snap, api.Errno) {
	if d == nil {
		return api.Snap{}, api.ErrNil
	}
next:
	for _, f := range filesOf(d.Names()) {
		b, e := d.Read(f.name)
		if e != api.OK {
			continue next
		}
		s, e := Get(b)
		// Whole bytes under a name that tells another index are no snapshot's file.
		if e != api.OK || fileOf(s.Mark.Index) != f {
			continue next
		}
		return s, api.OK
	}
	return api.Snap{}, api.ErrGone
}
