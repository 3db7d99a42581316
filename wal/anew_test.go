package wal_test

import (
	"fmt"
	"math"
	"strings"
	"testing"

	"tollgate/api"
	"tollgate/disk"
	"tollgate/wal"
)

// sized is an entry whose record has that many bytes, 200 or more.
func sized(term, index, size int) api.Entry {
	ahead := len(entryRecord(entry(term, index, strings.Repeat("s", 128)))) - 128
	return entry(term, index, strings.Repeat("s", size-ahead))
}

// next is how long a record may be of which so much must be filled, so that what is left is no shorter than one.
func next(left int) int {
	if left > most && left < most+200 {
		return 1000
	}
	return min(left, most)
}

const most = 8 + 1 + 1 + 1 + 1 + 2 + api.MaxData // bytes of the longest record of a small index

// filled is a log whose file has that many bytes, and its entries: few, since all but the first ones are written over again and again.
func filled(t *testing.T, d *disk.Disk, size int) (*wal.Log, []api.Entry) {
	t.Helper()
	l := open(t, d)
	es := row(1, 1, 3)
	wantOK(t, l.Append(es...))
	wantOK(t, l.SetHard(api.Hard{Term: 1, Vote: 1}))
	left := size - len(whole(api.Mark{}, api.Hard{}, es...)) - 11
	var x api.Entry
	for left > 0 {
		x = sized(2, 3, next(left))
		wantOK(t, l.Append(x))
		left -= len(entryRecord(x))
	}
	if b, _ := d.Read("wal-1"); len(b) != size || l.File() != "wal-1" {
		t.Fatalf("%s: wal-1 has %d bytes; want %d", l.File(), len(b), size)
	}
	es[2] = x
	return l, es
}

// P6.2: up to MaxFile bytes the file is the same; by one more the log is written anew ahead.
func TestAppendUpToMaxFile(t *testing.T) {
	h := api.Hard{Term: 1, Vote: 1}
	for _, over := range []int{-1, 0, 1, 2} {
		d := disk.New(roomy)
		l, es := filled(t, d, api.MaxFile-500)
		was, _ := d.Read("wal-1")
		x, y := sized(3, 3, 200), sized(3, 4, 300+over)
		wantOK(t, l.Append(x, y))
		wantTold(t, l, api.Mark{}, h, es[0], es[1], x, y)
		if over <= 0 {
			wantFile(t, l, d, "wal-1", string(was)+entryRecords(x, y))
			wantNames(t, d, "wal-1")
		} else {
			wantFile(t, l, d, "wal-2", whole(api.Mark{}, h, es...)+entryRecords(x, y))
			wantNames(t, d, "wal-2")
		}
		wantTold(t, open(t, d.Fork()), api.Mark{}, h, es[0], es[1], x, y)
		d.Crash(nil)
		if over <= 0 {
			wantTold(t, open(t, d), api.Mark{}, api.Hard{})
		} else {
			wantTold(t, open(t, d), api.Mark{}, h, es...)
		}
	}
}

// P6.2: the same of a Hard, whose record here has 11 bytes.
func TestSetHardUpToMaxFile(t *testing.T) {
	was, h := api.Hard{Term: 1, Vote: 1}, api.Hard{Term: 2, Vote: 9}
	for left, anew := range map[int]bool{0: true, 10: true, 11: false, 12: false} {
		d := disk.New(roomy)
		l, es := filled(t, d, api.MaxFile-left)
		file, _ := d.Read("wal-1")
		wantRefused(t, l, d, "SetHard of what it is", api.OK, func() api.Errno { return l.SetHard(was) })
		wantRefused(t, l, d, "Append of none", api.OK, func() api.Errno { return l.Append() })
		wantOK(t, l.SetHard(h))
		wantTold(t, l, api.Mark{}, h, es...)
		if anew {
			wantFile(t, l, d, "wal-2", whole(api.Mark{}, was, es...)+hardRecord(h))
		} else {
			wantFile(t, l, d, "wal-1", string(file)+hardRecord(h))
		}
		wantTold(t, open(t, d), api.Mark{}, h, es...)
	}
}

// P6.2: what no file could hold is ErrLimit; the log is as it was, in another file.
func TestAppendPastEveryFile(t *testing.T) {
	d := disk.New(roomy)
	l := open(t, d)
	es := row(1, 1, 3)
	wantOK(t, l.Append(es...))
	wantOK(t, l.SetHard(api.Hard{Term: 3}))
	var many []api.Entry
	for i := range api.MaxFile/api.MaxData + 1 {
		many = append(many, entry(1, 2+i, strings.Repeat("m", api.MaxData)))
	}
	for number := 2; number < 5; number++ {
		if e := l.Append(many...); e != api.ErrLimit {
			t.Errorf("Append past every file: error %d", e)
		}
		wantTold(t, l, api.Mark{}, api.Hard{Term: 3}, es...)
		wantFile(t, l, d, fmt.Sprintf("wal-%d", number), whole(api.Mark{}, api.Hard{Term: 3}, es...))
		if len(d.Names()) != 1 {
			t.Errorf("names are %q", d.Names())
		}
	}
	many[1].Index = 9
	wantRefused(t, l, d, "Append of what does not fit", api.ErrArg, func() api.Errno { return l.Append(many...) })
	l = open(t, d)
	wantTold(t, l, api.Mark{}, api.Hard{Term: 3}, es...)
}

// P6.2: the error of writing anew is told, and nothing has changed.
func TestAppendWithoutRoomToWriteAnew(t *testing.T) {
	d := disk.New(api.MaxFile + 3000)
	l, es := filled(t, d, api.MaxFile)
	anew := whole(api.Mark{}, api.Hard{Term: 1, Vote: 1}, es...)
	wantOK(t, d.Write("other", 0, make([]byte, 3000-len(anew)+1)))
	x := entry(5, 4, "x")
	wantRefused(t, l, d, "Append", api.ErrFull, func() api.Errno { return l.Append(x) })
	wantRefused(t, l, d, "SetHard", api.ErrFull, func() api.Errno { return l.SetHard(api.Hard{}) })
	wantOK(t, d.Cut("other", 3000-len(anew)))
	wantOK(t, l.Append(x))
	wantFile(t, l, d, "wal-2", anew+entryRecord(x))
	wantNames(t, d, "other", "wal-2")
}

// P6.2: behind a log that is written anew the disk may be full: the log is as it was, in another file.
func TestAppendFullBehindAnew(t *testing.T) {
	h := api.Hard{Term: 1, Vote: 1}
	_, es := filled(t, disk.New(roomy), api.MaxFile/3)
	anew := whole(api.Mark{}, h, es...)
	d := disk.New(api.MaxFile/3 + len(anew))
	l, _ := filled(t, d, api.MaxFile/3)
	var many []api.Entry
	for i := range 90 {
		many = append(many, entry(1, 4+i, strings.Repeat("m", api.MaxData)))
	}
	if e := l.Append(many...); e != api.ErrFull {
		t.Errorf("Append to a full disk behind writing anew: error %d", e)
	}
	wantTold(t, l, api.Mark{}, h, es...)
	wantFile(t, l, d, "wal-2", anew)
	wantNames(t, d, "wal-2")
	d.Crash(nil)
	wantTold(t, open(t, d), api.Mark{}, h, es...)
}

// P6.3: both files must find room until the elder one goes; if they don't, nothing has changed.
func TestAnewWithoutRoom(t *testing.T) {
	es := row(1, 1, 3)
	elder := len(whole(api.Mark{}, api.Hard{}, es...))
	for what, call := range map[string]struct {
		do   func(l *wal.Log) api.Errno
		size int
	}{
		"Compact": {func(l *wal.Log) api.Errno { return l.Compact(1) }, len(whole(api.Mark{Index: 1, Term: 1}, api.Hard{}, es[1:]...))},
		"Reset":   {func(l *wal.Log) api.Errno { return l.Reset(api.Mark{Index: 300}) }, len(whole(api.Mark{Index: 300}, api.Hard{}))},
	} {
		for short := range call.size + 1 {
			d := disk.New(elder + call.size - short)
			l := open(t, d)
			wantOK(t, l.Append(es...))
			if short == 0 {
				wantOK(t, call.do(l))
				wantNames(t, d, "wal-2")
				continue
			}
			wantRefused(t, l, d, what, api.ErrFull, func() api.Errno { return call.do(l) })
			wantTold(t, open(t, d), api.Mark{}, api.Hard{}, es...)
		}
	}
}

// P6.3: with MaxFiles files there is no place for wal.tmp.
func TestAnewWithMaxFiles(t *testing.T) {
	d := disk.New(roomy)
	l := open(t, d)
	wantOK(t, l.Append(row(1, 1, 3)...))
	for i := range api.MaxFiles - 1 {
		wantOK(t, d.Write(fmt.Sprintf("other%d", i), 0, nil))
	}
	wantRefused(t, l, d, "Compact", api.ErrLimit, func() api.Errno { return l.Compact(2) })
	wantRefused(t, l, d, "Reset", api.ErrLimit, func() api.Errno { return l.Reset(api.Mark{}) })
	wantOK(t, l.Append(row(1, 4, 1)...))
	wantOK(t, d.Remove("other3"))
	wantOK(t, l.Compact(2))
	wantTold(t, l, api.Mark{Index: 2, Term: 1}, api.Hard{}, row(1, 3, 2)...)
}

// P6.3: a log that grew by its Hard's record past MaxFile can't be written anew: nothing has changed.
func TestAnewPastMaxFile(t *testing.T) {
	file := markRecord(api.Mark{})
	var es []api.Entry
	for len(file) < api.MaxFile {
		es = append(es, sized(1, len(es)+1, next(api.MaxFile-len(file))))
		file += entryRecord(es[len(es)-1])
	}
	d := planted(t, "wal-1", file)
	l := open(t, d)
	wantTold(t, l, api.Mark{}, api.Hard{}, es...)
	if len(file) != api.MaxFile {
		t.Fatalf("the file has %d bytes", len(file))
	}
	wantRefused(t, l, d, "SetHard", api.ErrLimit, func() api.Errno { return l.SetHard(api.Hard{Term: 1}) })
	wantRefused(t, l, d, "Append", api.ErrLimit, func() api.Errno { return l.Append(entry(2, 1, "")) })
	wantOK(t, l.Compact(1))
	wantOK(t, l.SetHard(api.Hard{Term: 1}))
}

// P6.2, P6.3: a log whose file was taken from its disk keeps nothing, and says so.
func TestFileTakenAway(t *testing.T) {
	d := disk.New(roomy)
	l := open(t, d)
	wantOK(t, l.Append(row(1, 1, 3)...))
	wantOK(t, d.Remove("wal-1"))
	wantOK(t, d.Write("wal-2", 0, []byte("another one's")))
	for what, call := range map[string]func() api.Errno{
		"Append": func() api.Errno { return l.Append(row(1, 4, 1)...) }, "SetHard": func() api.Errno { return l.SetHard(api.Hard{Term: 1}) },
		"Sync": l.Sync, "Compact": func() api.Errno { return l.Compact(1) }, "Reset": func() api.Errno { return l.Reset(api.Mark{}) },
	} {
		wantRefused(t, l, d, what, api.ErrGone, call)
	}
}

// P1: calls at numbers of all kinds end and don't panic.
func TestAllNumbers(t *testing.T) {
	numbers := []int{math.MinInt, -1, 0, 1, 2, 3, api.MaxNode, api.MaxNum - 1, api.MaxNum, api.MaxNum + 1, math.MaxInt}
	d := disk.New(roomy)
	l := open(t, d)
	for _, a := range numbers {
		for _, b := range numbers {
			l.Append(api.Entry{Kind: api.EntryKind(a), Term: b, Index: a}, api.Entry{Kind: api.Data, Term: a, Index: b})
			l.SetHard(api.Hard{Term: a, Vote: b})
			l.Compact(a)
			l.Reset(api.Mark{Index: a, Term: b})
			l.Entries(a, b)
			l.Term(b)
			l.Append(entry(1, l.Last()+1, ""), entry(1, l.Last()+2, ""))
			l.Compact(b)
			if again := open(t, d.Fork()); told(again) != told(l) {
				t.Fatalf("opened again it is %s; it was %s", told(again), told(l))
			}
		}
	}
}
