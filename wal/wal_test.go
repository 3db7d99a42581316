package wal_test

import (
	"bytes"
	"fmt"
	"math"
	"slices"
	"strings"
	"testing"

	"tollgate/api"
	"tollgate/disk"
	"tollgate/frame"
	"tollgate/wal"
	"tollgate/wire"
)

const roomy = math.MaxInt

var wrongNumbers = []int{math.MinInt, -api.MaxNum, -1, api.MaxNum + 1, math.MaxInt}

func entry(term, index int, data string) api.Entry {
	return api.Entry{Kind: api.Data, Term: term, Index: index, Data: []byte(data)}
}

// row is entries of one term, one behind the other.
func row(term, from, count int) []api.Entry {
	var es []api.Entry
	for i := range count {
		es = append(es, entry(term, from+i, fmt.Sprintf("%d-%d", term, from+i)))
	}
	return es
}

func framed(b string) string {
	f, _ := frame.Frame([]byte(b))
	return string(f)
}

func number(n int) string {
	b, _ := wire.Number(n)
	return string(b)
}

func markRecord(m api.Mark) string { return framed("\x01" + number(m.Index) + number(m.Term)) }

func hardRecord(h api.Hard) string { return framed("\x02" + number(h.Term) + number(h.Vote)) }

func entryRecord(x api.Entry) string {
	b, _ := wire.PutEntry(x)
	return framed("\x03" + string(b))
}

func entryRecords(es ...api.Entry) string {
	var s strings.Builder
	for _, x := range es {
		s.WriteString(entryRecord(x))
	}
	return s.String()
}

// whole is a file that is written anew.
func whole(m api.Mark, h api.Hard, es ...api.Entry) string {
	return markRecord(m) + hardRecord(h) + entryRecords(es...)
}

func wantOK(t *testing.T, e api.Errno) {
	t.Helper()
	if e != api.OK {
		t.Fatalf("error %d", e)
	}
}

func open(t *testing.T, d *disk.Disk) *wal.Log {
	t.Helper()
	l, e := wal.Open(d)
	if e != api.OK || l == nil {
		t.Fatalf("Open: error %d", e)
	}
	return l
}

// planted is a disk with synced files, names and bytes by turns.
func planted(t *testing.T, files ...string) *disk.Disk {
	t.Helper()
	d := disk.New(roomy)
	for i := 0; i < len(files); i += 2 {
		wantOK(t, d.Write(files[i], 0, []byte(files[i+1])))
		wantOK(t, d.Sync(files[i]))
	}
	return d
}

func files(d *disk.Disk) string {
	var s strings.Builder
	for _, name := range d.Names() {
		b, _ := d.Read(name)
		sure, e := d.Sure(name)
		fmt.Fprintf(&s, "%s: %x, sure %x %d; ", name, frame.Sum(b), frame.Sum(sure), e)
	}
	return s.String()
}

func listed(es []api.Entry) string {
	var s strings.Builder
	for _, x := range es {
		fmt.Fprintf(&s, " %d %d %d %q", x.Kind, x.Term, x.Index, x.Data)
	}
	return s.String()
}

func content(base api.Mark, hard api.Hard, es []api.Entry) string {
	return fmt.Sprintf("base %v, hard %v, entries%s", base, hard, listed(es))
}

// told is what a log tells of itself, file aside.
func told(l *wal.Log) string {
	return content(l.Base(), l.Hard(), l.Entries(math.MinInt, math.MaxInt))
}

func wantTold(t *testing.T, l *wal.Log, base api.Mark, hard api.Hard, es ...api.Entry) {
	t.Helper()
	if got, want := told(l), content(base, hard, es); got != want {
		t.Errorf("the log is\n%.2000s\nwant\n%.2000s", got, want)
	}
	if l.Last() != base.Index+len(es) {
		t.Errorf("the last index is %d; want %d", l.Last(), base.Index+len(es))
	}
}

func wantFile(t *testing.T, l *wal.Log, d *disk.Disk, name, want string) {
	t.Helper()
	b, e := d.Read(name)
	if l.File() != name || e != api.OK || string(b) != want {
		t.Errorf("the file is %s; %s has %d bytes, error %d; want %d bytes", l.File(), name, len(b), e, len(want))
	}
}

func wantNames(t *testing.T, d *disk.Disk, want ...string) {
	t.Helper()
	if got := d.Names(); !slices.Equal(got, want) {
		t.Errorf("names are %q; want %q", got, want)
	}
}

// wantRefused: the error, and nothing that the log, its disk, or a log that is opened behind a crash tells.
func wantRefused(t *testing.T, l *wal.Log, d *disk.Disk, what string, errno api.Errno, call func() api.Errno) {
	t.Helper()
	log, file, disk := told(l), l.File(), files(d)
	if e := call(); e != errno {
		t.Errorf("%s: error %d; want %d", what, e, errno)
	}
	if told(l) != log || l.File() != file || files(d) != disk {
		t.Errorf("%s was refused and changed\n%.2000s, %s, %s\nto\n%.2000s, %s, %s", what, log, file, disk, told(l), l.File(), files(d))
	}
}

// P6.1: the document's first example.
func TestOpenOfAnEmptyDisk(t *testing.T) {
	d := disk.New(roomy)
	l := open(t, d)
	wantTold(t, l, api.Mark{}, api.Hard{})
	wantFile(t, l, d, "wal-1", framed("\x01\x00\x00")+framed("\x02\x00\x00"))
	wantNames(t, d, "wal-1")
	d.Crash(nil)
	wantFile(t, l, d, "wal-1", framed("\x01\x00\x00")+framed("\x02\x00\x00"))
}

// P6.1: the error of writing the first file anew.
func TestOpenWithoutRoom(t *testing.T) {
	for room := -1; room < 22; room++ {
		d := disk.New(room)
		if l, e := wal.Open(d); l != nil || e != api.ErrFull {
			t.Errorf("Open with room for %d: error %d", room, e)
		}
		wantNames(t, d)
	}
	open(t, disk.New(22))
	d := disk.New(roomy)
	for i := range api.MaxFiles {
		wantOK(t, d.Write(fmt.Sprintf("other%d", i), 0, nil))
	}
	if l, e := wal.Open(d); l != nil || e != api.ErrLimit || len(d.Names()) != api.MaxFiles {
		t.Errorf("Open of a disk with MaxFiles files: error %d", e)
	}
	wantOK(t, d.Remove("other7"))
	open(t, d)
}

func TestOpenOfNil(t *testing.T) {
	if l, e := wal.Open(nil); l != nil || e != api.ErrNil {
		t.Errorf("Open(nil): error %d", e)
	}
}

// P6.1: the greatest number counts, by its worth and not by its bytes; what is no log's file stays.
func TestOpenRemovesOtherLogs(t *testing.T) {
	others := []string{"snap-3", "wal", "wal-", "wal--1", "wal-0", "wal-00", "wal-011", "wal-1.", "wal-1099511627777", "wal-1a", "wal-9223372036854775808", "wal.tmp.", "xwal-12"}
	d := planted(t, "wal.tmp", "torn", "wal-9", "no record", "wal-10", whole(api.Mark{Index: 4, Term: 2}, api.Hard{Term: 3}))
	for _, name := range others {
		wantOK(t, d.Write(name, 0, []byte(name)))
	}
	l := open(t, d)
	wantTold(t, l, api.Mark{Index: 4, Term: 2}, api.Hard{Term: 3})
	wantNames(t, d, append(others[:6:6], append([]string{"wal-011", "wal-1.", "wal-10"}, others[8:]...)...)...)
	for _, name := range others {
		if b, _ := d.Read(name); string(b) != name {
			t.Errorf("%s has %q", name, b)
		}
	}
	if l.File() != "wal-10" {
		t.Errorf("the file is %s", l.File())
	}
}

// P6.1: without a log's file wal-1 is written anew, whatever else is there.
func TestOpenBesideOthers(t *testing.T) {
	d := planted(t, "wal-0", "x", "wal-1099511627777", "x", "wal.tmp", strings.Repeat("torn", 100))
	l := open(t, d)
	wantFile(t, l, d, "wal-1", whole(api.Mark{}, api.Hard{}))
	wantNames(t, d, "wal-0", "wal-1", "wal-1099511627777")
}

// P6.1: the greatest number that may be; there is none behind it, so what would need one is refused.
func TestGreatestNumber(t *testing.T) {
	d := planted(t, "wal-1099511627775", "", "wal-1099511627776", whole(api.Mark{}, api.Hard{}, row(1, 1, 2)...))
	l := open(t, d)
	wantNames(t, d, "wal-1099511627776")
	wantTold(t, l, api.Mark{}, api.Hard{}, row(1, 1, 2)...)
	wantRefused(t, l, d, "Compact behind MaxNum", api.ErrLimit, func() api.Errno { return l.Compact(1) })
	wantRefused(t, l, d, "Reset behind MaxNum", api.ErrLimit, func() api.Errno { return l.Reset(api.Mark{}) })
	wantOK(t, l.Append(entry(1, 3, "")))
}

// P6.1: records one behind the other; a mark drops the entries and leaves the Hard.
func TestOpenReadsRecords(t *testing.T) {
	zero, two := api.Mark{}, api.Mark{Index: 2, Term: 7}
	h, g := api.Hard{Term: 5, Vote: 2}, api.Hard{Term: api.MaxNum, Vote: api.MaxNode}
	noop := api.Entry{Kind: api.Noop, Term: 1, Index: 1}
	turn := api.Entry{Kind: api.Turn, Term: 9, Index: 3, Data: []byte("t")}
	most := api.Mark{Index: api.MaxNum, Term: api.MaxNum}
	for _, c := range []struct {
		file string
		base api.Mark
		hard api.Hard
		es   []api.Entry
	}{
		{markRecord(zero), zero, api.Hard{}, nil},
		{markRecord(two) + hardRecord(h) + hardRecord(g), two, g, nil},
		{markRecord(zero) + entryRecord(noop) + hardRecord(h), zero, h, []api.Entry{noop}},
		{markRecord(two) + entryRecord(turn) + entryRecord(entry(1, 4, "")), two, api.Hard{}, []api.Entry{turn, entry(1, 4, "")}},
		{whole(zero, h, append(row(1, 1, 4), row(2, 2, 2)...)...), zero, h, append(row(1, 1, 1), row(2, 2, 2)...)},
		{whole(zero, h, append(row(1, 1, 4), row(2, 1, 1)...)...), zero, h, row(2, 1, 1)},
		{whole(zero, h, row(1, 1, 4)...) + markRecord(two) + entryRecord(turn), two, h, []api.Entry{turn}},
		{whole(two, h, turn) + markRecord(zero), zero, h, nil},
		{markRecord(most) + hardRecord(g), most, g, nil},
		{markRecord(api.Mark{Index: api.MaxNum - 1}) + entryRecord(entry(1, api.MaxNum, "")), api.Mark{Index: api.MaxNum - 1}, api.Hard{}, []api.Entry{entry(1, api.MaxNum, "")}},
	} {
		d := planted(t, "wal-3", c.file)
		l := open(t, d)
		wantTold(t, l, c.base, c.hard, c.es...)
		wantFile(t, l, d, "wal-3", c.file)
	}
}

// noRecords are what a frame may hold that is no record.
func noRecords() []string {
	bodies := []string{"", "\x00", "\x04\x00\x00", "\xff\x00\x00",
		"\x01", "\x01\x00", "\x01\x00\x00\x00", "\x01\x80\x00\x00", "\x01\x00\x80\x00", "\x01\x81\x80\x80\x80\x80\x20\x00", "\x01\x00\x81\x80\x80\x80\x80\x20", "\x01\x80\x80\x80\x80\x80\x80\x01\x00",
		"\x02", "\x02\x00", "\x02\x00\x00\x00", "\x02\x00\x0a", "\x02\x80\x00\x00",
		"\x03", "\x03\x01\x01\x01", "\x03\x01\x01\x01\x01x", "\x03\x00\x01\x01\x00", "\x03\x04\x01\x01\x00", "\x03\x02\x00\x01\x00", "\x03\x02\x01\x00\x00", "\x03\x02\x01\x01\x02x", "\x03\x02\x01\x01\x00x"}
	long, _ := wire.PutEntry(entry(1, 1, strings.Repeat("x", api.MaxData)))
	return append(bodies, "\x03"+string(long)+"x", "\x03\x02\x01\x01\x81\x10"+strings.Repeat("x", api.MaxData+1))
}

// wantFormRefused: ErrForm, and a file that stays as it was, torn end and all; what was removed stays so.
func wantFormRefused(t *testing.T, file string) {
	t.Helper()
	d := planted(t, "wal-1", "elder", "wal-2", file+"torn", "wal.tmp", "tmp")
	if l, e := wal.Open(d); l != nil || e != api.ErrForm {
		t.Errorf("Open of %.60x: error %d", file, e)
	}
	wantNames(t, d, "wal-2")
	if b, _ := d.Read("wal-2"); string(b) != file+"torn" {
		t.Errorf("%.60x became %.60x", file, b)
	}
}

// P6.1, E1
func TestOpenRefusesNoRecords(t *testing.T) {
	for _, r := range noRecords() {
		wantFormRefused(t, framed(r))
		wantFormRefused(t, whole(api.Mark{}, api.Hard{})+framed(r))
		wantFormRefused(t, whole(api.Mark{}, api.Hard{}, row(1, 1, 1)...)+framed(r)+entryRecords(row(1, 2, 1)...))
	}
}

// P6.1: entries from 1 behind Base to 1 behind the last one; a mark first.
func TestOpenRefusesWhatDoesNotFit(t *testing.T) {
	base := api.Mark{Index: 5, Term: 1}
	for _, file := range []string{
		whole(api.Mark{}, api.Hard{}, entry(1, 2, "")),
		whole(api.Mark{}, api.Hard{}, entry(1, 1, ""), entry(1, 3, "")),
		whole(base, api.Hard{}, entry(1, 5, "")), whole(base, api.Hard{}, entry(1, 1, "")), whole(base, api.Hard{}, entry(1, 7, "")),
		whole(base, api.Hard{}, entry(1, 6, ""), entry(1, 5, "")), whole(base, api.Hard{}, entry(1, 6, ""), entry(1, 8, "")),
		whole(api.Mark{}, api.Hard{}, row(1, 1, 3)...) + markRecord(base) + entryRecord(entry(1, 3, "")),
		whole(api.Mark{}, api.Hard{}, row(1, 1, 3)...) + markRecord(api.Mark{}) + entryRecord(entry(1, 4, "")),
		markRecord(api.Mark{Index: api.MaxNum}) + entryRecord(entry(1, api.MaxNum, "")),
		"", hardRecord(api.Hard{}), hardRecord(api.Hard{}) + markRecord(base), entryRecord(entry(1, 1, "")), entryRecord(entry(1, 1, "")) + markRecord(base),
	} {
		wantFormRefused(t, file)
	}
}

// P6.1: what stands behind the frames is cut off, and that lasts.
func TestOpenCutsOff(t *testing.T) {
	file := whole(api.Mark{}, api.Hard{Term: 1, Vote: 1}, row(1, 1, 2)...)
	next := entryRecord(entry(1, 3, "third"))
	turned := []byte(next)
	turned[len(turned)-1] ^= 1
	tails := []string{"", string(turned), string(turned) + next, strings.Repeat("\xff", 50)}
	for n := range len(next) {
		tails = append(tails, next[:n])
	}
	for _, tail := range tails {
		d := disk.New(roomy)
		wantOK(t, d.Write("wal-7", 0, []byte(file+tail)))
		l := open(t, d)
		wantTold(t, l, api.Mark{}, api.Hard{Term: 1, Vote: 1}, row(1, 1, 2)...)
		wantFile(t, l, d, "wal-7", file)
		if b, e := d.Sure("wal-7"); string(b) != file || e != api.OK {
			t.Errorf("of the file last %d bytes, error %d; want %d", len(b), e, len(file))
		}
	}
}

// P6.2, P6.4
func TestAppend(t *testing.T) {
	d := disk.New(roomy)
	l := open(t, d)
	file := whole(api.Mark{}, api.Hard{})
	for _, c := range []struct{ add, want []api.Entry }{
		{row(1, 1, 1), row(1, 1, 1)},
		{row(1, 2, 3), row(1, 1, 4)},
		{nil, row(1, 1, 4)},
		{[]api.Entry{}, row(1, 1, 4)},
		{row(2, 3, 1), append(row(1, 1, 2), row(2, 3, 1)...)},
		{row(3, 4, 2), append(append(row(1, 1, 2), row(2, 3, 1)...), row(3, 4, 2)...)},
		{row(4, 5, 2), append(append(append(row(1, 1, 2), row(2, 3, 1)...), row(3, 4, 1)...), row(4, 5, 2)...)},
		{row(1, 1, 2), row(1, 1, 2)},
		{[]api.Entry{{Kind: api.Noop, Term: 9, Index: 3}, {Kind: api.Turn, Term: 1, Index: 4}, entry(api.MaxNum, 5, strings.Repeat("d", api.MaxData))},
			append(row(1, 1, 2), api.Entry{Kind: api.Noop, Term: 9, Index: 3}, api.Entry{Kind: api.Turn, Term: 1, Index: 4}, entry(api.MaxNum, 5, strings.Repeat("d", api.MaxData)))},
	} {
		wantOK(t, l.Append(c.add...))
		file += entryRecords(c.add...)
		wantTold(t, l, api.Mark{}, api.Hard{}, c.want...)
		wantFile(t, l, d, "wal-1", file)
		wantTold(t, open(t, d.Fork()), api.Mark{}, api.Hard{}, c.want...)
	}
}

// P6.2: indices that do not fit, and entries that may not be, in the order in which the document names them.
func TestAppendErrors(t *testing.T) {
	d := planted(t, "wal-1", whole(api.Mark{Index: 5, Term: 1}, api.Hard{}, row(1, 6, 3)...))
	l := open(t, d)
	refused := func(what string, errno api.Errno, es ...api.Entry) {
		t.Helper()
		wantRefused(t, l, d, "Append, "+what, errno, func() api.Errno { return l.Append(es...) })
	}
	long := entry(1, 9, strings.Repeat("x", api.MaxData+1))
	for _, index := range []int{1, 4, 5, 10, 11, api.MaxNum} {
		refused(fmt.Sprint("index ", index), api.ErrArg, entry(2, index, ""))
		refused("what is too long behind one that does not fit", api.ErrLimit, entry(2, index, ""), long)
	}
	refused("a gap", api.ErrArg, entry(2, 9, ""), entry(2, 11, ""))
	refused("twice the same", api.ErrArg, entry(2, 9, ""), entry(2, 9, ""))
	refused("back", api.ErrArg, entry(2, 9, ""), entry(2, 8, ""))
	refused("a gap at the end", api.ErrArg, append(row(2, 7, 4), entry(2, 12, ""))...)
	for _, n := range append([]int{0}, wrongNumbers...) {
		refused("an index that may not be", api.ErrArg, entry(2, n, ""))
		refused("a term that may not be", api.ErrArg, entry(n, 9, ""))
		refused("a term that may not be, behind a right one", api.ErrArg, entry(2, 9, ""), entry(n, 10, ""))
	}
	for _, kind := range []api.EntryKind{-1, api.NoEntry, api.Turn + 1, 256 + api.Data} {
		refused("a kind that may not be", api.ErrArg, api.Entry{Kind: kind, Term: 1, Index: 9})
	}
	refused("a Noop with data", api.ErrArg, api.Entry{Kind: api.Noop, Term: 1, Index: 9, Data: []byte("x")})
	refused("too long", api.ErrLimit, long)
	refused("too long ahead of one that may not be", api.ErrLimit, long, entry(0, 10, ""))
	refused("one that may not be ahead of one that is too long", api.ErrArg, entry(0, 9, ""), long)
	refused("nothing", api.OK)
	wantTold(t, l, api.Mark{Index: 5, Term: 1}, api.Hard{}, row(1, 6, 3)...)
}

// P6.2: at the greatest index there is none behind it.
func TestAppendAtMaxNum(t *testing.T) {
	d := disk.New(roomy)
	l := open(t, d)
	wantOK(t, l.Reset(api.Mark{Index: api.MaxNum - 1, Term: api.MaxNum}))
	wantOK(t, l.Append(entry(1, api.MaxNum, "last")))
	wantRefused(t, l, d, "Append behind MaxNum", api.ErrArg, func() api.Errno { return l.Append(entry(1, api.MaxNum+1, "")) })
	wantRefused(t, l, d, "Append of two up to behind MaxNum", api.ErrArg, func() api.Errno {
		return l.Append(entry(1, api.MaxNum, ""), entry(1, api.MaxNum+1, ""))
	})
	wantOK(t, l.Compact(api.MaxNum))
	wantTold(t, l, api.Mark{Index: api.MaxNum, Term: 1}, api.Hard{})
	wantRefused(t, l, d, "Append at the base", api.ErrArg, func() api.Errno { return l.Append(entry(1, api.MaxNum, "")) })
}

// P6.2
func TestSetHard(t *testing.T) {
	d := disk.New(roomy)
	l := open(t, d)
	wantOK(t, l.Append(row(1, 1, 2)...))
	file := whole(api.Mark{}, api.Hard{}, row(1, 1, 2)...)
	wantOK(t, l.SetHard(api.Hard{}))
	wantFile(t, l, d, "wal-1", file)
	for _, h := range []api.Hard{{Term: 1}, {Term: 1, Vote: 2}, {Term: 300, Vote: 2}, {}, {Term: api.MaxNum, Vote: api.MaxNode}, {Vote: 1}} {
		file += hardRecord(h)
		for range 2 {
			wantOK(t, l.SetHard(h))
			wantTold(t, l, api.Mark{}, h, row(1, 1, 2)...)
			wantFile(t, l, d, "wal-1", file)
		}
		wantTold(t, open(t, d.Fork()), api.Mark{}, h, row(1, 1, 2)...)
	}
	for _, n := range append([]int{api.MaxNode + 1}, wrongNumbers...) {
		wantRefused(t, l, d, "SetHard", api.ErrArg, func() api.Errno { return l.SetHard(api.Hard{Vote: n}) })
	}
	for _, n := range wrongNumbers {
		wantRefused(t, l, d, "SetHard", api.ErrArg, func() api.Errno { return l.SetHard(api.Hard{Term: n, Vote: 1}) })
	}
}

// P6.2: a Write's error is told, and nothing has changed.
func TestWithoutRoom(t *testing.T) {
	record := len(entryRecord(entry(1, 1, "abc")))
	d := disk.New(22 + 2*record + 10)
	l := open(t, d)
	wantOK(t, l.Append(entry(1, 1, "abc")))
	wantRefused(t, l, d, "Append", api.ErrFull, func() api.Errno { return l.Append(entry(1, 1, "x"), entry(1, 2, "abcdefgh"), entry(1, 3, "")) })
	wantOK(t, l.Append(entry(2, 1, "xyz")))
	wantRefused(t, l, d, "SetHard", api.ErrFull, func() api.Errno { return l.SetHard(api.Hard{Term: 1}) })
	wantRefused(t, l, d, "Append", api.ErrFull, func() api.Errno { return l.Append(entry(1, 1, "")) })
	wantOK(t, l.SetHard(api.Hard{}))
	wantOK(t, l.Append())
	wantTold(t, open(t, d), api.Mark{}, api.Hard{}, entry(2, 1, "xyz"))
}

// P6.3
func TestSync(t *testing.T) {
	d := disk.New(roomy)
	l := open(t, d)
	wantOK(t, l.Append(row(1, 1, 3)...))
	wantOK(t, l.SetHard(api.Hard{Term: 2, Vote: 1}))
	if b, _ := d.Sure("wal-1"); string(b) != whole(api.Mark{}, api.Hard{}) {
		t.Errorf("ahead of Sync last %d bytes", len(b))
	}
	wantOK(t, l.Sync())
	wantOK(t, l.Sync())
	if b, _ := d.Sure("wal-1"); string(b) != whole(api.Mark{}, api.Hard{}, row(1, 1, 3)...)+hardRecord(api.Hard{Term: 2, Vote: 1}) {
		t.Errorf("behind Sync last %d bytes", len(b))
	}
}

// P6.3
func TestCompact(t *testing.T) {
	es := append(row(1, 1, 2), row(2, 3, 3)...)
	h := api.Hard{Term: 7, Vote: 3}
	for index := 1; index <= 5; index++ {
		d := disk.New(roomy)
		l := open(t, d)
		wantOK(t, l.Append(es...))
		wantOK(t, l.SetHard(h))
		wantOK(t, l.Compact(index))
		base := api.Mark{Index: index, Term: es[index-1].Term}
		wantTold(t, l, base, h, es[index:]...)
		wantFile(t, l, d, "wal-2", whole(base, h, es[index:]...))
		wantNames(t, d, "wal-2")
		for _, wrong := range []int{math.MinInt, -1, 0, index - 1, 6, math.MaxInt} {
			wantRefused(t, l, d, fmt.Sprint("Compact of ", wrong), api.ErrArg, func() api.Errno { return l.Compact(wrong) })
		}
		wantRefused(t, l, d, "Compact of the base", api.OK, func() api.Errno { return l.Compact(index) })
		wantOK(t, l.Append(entry(8, 6, "more")))
		wantOK(t, l.Compact(6))
		wantTold(t, l, api.Mark{Index: 6, Term: 8}, h)
		wantNames(t, d, "wal-3")
		d.Crash(nil)
		wantTold(t, open(t, d), api.Mark{Index: 6, Term: 8}, h)
	}
}

// P6.3
func TestReset(t *testing.T) {
	d := disk.New(roomy)
	l := open(t, d)
	h := api.Hard{Term: 7, Vote: 3}
	wantOK(t, l.SetHard(h))
	for i, m := range []api.Mark{{Index: 9, Term: 4}, {Index: 9, Term: 4}, {}, {Index: 1}, {Term: 1}, {Index: api.MaxNum, Term: api.MaxNum}, {Index: 3, Term: 3}} {
		if last := l.Last(); last < api.MaxNum {
			wantOK(t, l.Append(row(1, last+1, 2)...))
		}
		wantOK(t, l.Reset(m))
		name := fmt.Sprintf("wal-%d", i+2)
		wantTold(t, l, m, h)
		wantFile(t, l, d, name, whole(m, h))
		wantNames(t, d, name)
		f := d.Fork()
		f.Crash(nil)
		wantTold(t, open(t, f), m, h)
	}
	for _, n := range wrongNumbers {
		wantRefused(t, l, d, "Reset", api.ErrArg, func() api.Errno { return l.Reset(api.Mark{Index: n, Term: 1}) })
		wantRefused(t, l, d, "Reset", api.ErrArg, func() api.Errno { return l.Reset(api.Mark{Index: 1, Term: n}) })
	}
}

// P6.4
func TestTermAndEntries(t *testing.T) {
	l := open(t, planted(t, "wal-1", whole(api.Mark{Index: 5, Term: 3}, api.Hard{}, append(row(4, 6, 2), row(2, 8, 1)...)...)))
	es := append(row(4, 6, 2), row(2, 8, 1)...)
	for index, want := range map[int]int{5: 3, 6: 4, 7: 4, 8: 2} {
		if term, ok := l.Term(index); term != want || !ok {
			t.Errorf("Term(%d): %d, %v; want %d", index, term, ok, want)
		}
	}
	for _, index := range []int{math.MinInt, -1, 0, 1, 4, 9, 10, math.MaxInt} {
		if term, ok := l.Term(index); term != 0 || ok {
			t.Errorf("Term(%d): %d, %v", index, term, ok)
		}
	}
	edges := []int{math.MinInt, -1, 0, 4, 5, 6, 7, 8, 9, math.MaxInt}
	for _, from := range edges {
		for _, to := range edges {
			want := slices.DeleteFunc(slices.Clone(es), func(x api.Entry) bool { return x.Index < from || x.Index > to })
			if got := l.Entries(from, to); listed(got) != listed(want) {
				t.Errorf("Entries(%d, %d):%s; want%s", from, to, listed(got), listed(want))
			}
		}
	}
	if term, ok := open(t, disk.New(roomy)).Term(0); term != 0 || !ok {
		t.Errorf("Term of a base of noughts: %d, %v", term, ok)
	}
}

// P1: a nil log's errors are ErrNil ahead of all others.
func TestNilLog(t *testing.T) {
	var l *wal.Log
	for _, e := range []api.Errno{
		l.Append(), l.Append(entry(1, 1, "")), l.Append(api.Entry{}), l.SetHard(api.Hard{}), l.SetHard(api.Hard{Term: -1}), l.Sync(),
		l.Compact(0), l.Compact(-1), l.Reset(api.Mark{}), l.Reset(api.Mark{Index: -1}),
	} {
		if e != api.ErrNil {
			t.Errorf("error %d", e)
		}
	}
	if l.Hard() != (api.Hard{}) || l.Base() != (api.Mark{}) || l.Last() != 0 || l.File() != "" || len(l.Entries(math.MinInt, math.MaxInt)) != 0 {
		t.Error("a nil log has something")
	}
	for _, index := range []int{math.MinInt, -1, 0, 1, math.MaxInt} {
		if term, ok := l.Term(index); term != 0 || ok {
			t.Errorf("Term(%d): %d, %v", index, term, ok)
		}
	}
}

// P3
func TestMemory(t *testing.T) {
	d := disk.New(roomy)
	l := open(t, d)
	room := []byte("abcdefgh")
	es := append(make([]api.Entry, 0, 4), entry(1, 1, ""), entry(1, 2, ""))
	es[0].Data, es[1].Data = room[:2], room[2:4]
	wantOK(t, l.Append(es...))
	if string(room) != "abcdefgh" || es[:3][2].Kind != api.NoEntry || string(es[1].Data) != "cd" {
		t.Errorf("what was handed in became %q", room)
	}
	copy(room, "????????")
	es[0], es[1] = entry(9, 9, "?"), entry(9, 9, "?")
	for range 2 {
		wantTold(t, l, api.Mark{}, api.Hard{}, entry(1, 1, "ab"), entry(1, 2, "cd"))
		got := l.Entries(1, 2)
		for i := range got {
			spare := got[i].Data[:cap(got[i].Data)]
			copy(spare, bytes.Repeat([]byte("?"), len(spare)))
			got[i] = entry(9, 9, "?")
		}
		_ = append(got[:1], entry(9, 9, "?"))
	}
	got := l.Entries(1, 2)
	wantOK(t, l.Append(entry(2, 1, "zz")))
	wantOK(t, l.Compact(1))
	if listed(got) != listed([]api.Entry{entry(1, 1, "ab"), entry(1, 2, "cd")}) {
		t.Errorf("what was told became%s", listed(got))
	}
}
