package wal

import (
	"slices"
	"strconv"
	"strings"

	"tollgate/api"
	"tollgate/frame"
)

const (
	namesBegin = "wal-"
	spare      = "wal.tmp"
)

func fileName(number int) string { return namesBegin + strconv.Itoa(number) }

// numberOf is the number of a log's file; 0, if the name is none of one.
func numberOf(name string) int {
	digits, ours := strings.CutPrefix(name, namesBegin)
	n, err := strconv.Atoi(digits)
	// Written back it must be the same: a sign or a nought ahead makes another name.
	if !ours || err != nil || n < 1 || n > api.MaxNum || fileName(n) != name {
		return 0
	}
	return n
}

func greatest(names []string) int {
	most := 0
	for _, name := range names {
		most = max(most, numberOf(name))
	}
	return most
}

// removeOthers takes away what elder logs, and writings that did not end, left.
func (l *Log) removeOthers() {
	for _, name := range l.Names() {
		n := numberOf(name)
		if name == spare || n > 0 && n != l.number {
			l.Remove(name)
		}
	}
}

// load takes the log from its file, and takes off what a crash left of a record behind the whole ones.
func (l *Log) load() api.Errno {
	b, e := l.Read(l.File())
	if e != api.OK {
		return e
	}
	records, end := frame.All(b)
	read, right := contentOf(records)
	if !right {
		return api.ErrForm
	}
	if e := l.Cut(l.File(), end); e != api.OK {
		return e
	}
	l.content = read
	return l.Sync()
}

// addRecords writes behind the file's end, of the file that is written anew, if this one would be too long.
func (l *Log) addRecords(records []byte) api.Errno {
	b, e := l.Read(l.File())
	if e != api.OK {
		return e
	}
	end := len(b)
	if len(records) > api.MaxFile-end {
		if e := l.anew(l.content); e != api.OK {
			return e
		}
		b, _ = l.Read(l.File())
		end = len(b)
	}
	return l.Write(l.File(), end, records)
}

// anew makes next the log, in a file of its own.
func (l *Log) anew(next content) api.Errno {
	if e := l.replaceFile(next.records()); e != api.OK {
		l.Remove(spare)
		return e
	}
	l.content = next
	l.number++
	return api.OK
}

// replaceFile asks for whatever may fail ahead of Rename, behind which nothing could be taken back.
func (l *Log) replaceFile(b []byte) api.Errno {
	if e := l.Write(spare, 0, b); e != api.OK {
		return e
	}
	if e := l.Disk.Sync(spare); e != api.OK {
		return e
	}
	// A file of a greater number would be no log's: Open would begin with an empty one.
	if l.number == api.MaxNum {
		return api.ErrLimit
	}
	first := l.number == 0
	if !first && !slices.Contains(l.Names(), l.File()) {
		return api.ErrGone
	}
	if e := l.Rename(spare, fileName(l.number+1)); e != api.OK || first {
		return e
	}
	return l.Remove(l.File())
}
