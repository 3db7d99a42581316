package disk_test

import (
	"fmt"
	"math"
	"slices"
	"strings"
	"testing"

	"tollgate/api"
	"tollgate/disk"
)

const roomy = math.MaxInt

// wrongNames are too short, too long, or have a byte that may not be.
func wrongNames() []string {
	all := []string{"", strings.Repeat("a", api.MaxName+1), "A", "aB", "a b", "a/b", "a\x00", "\xff", "é", "a_b", "+1", "a:", "`", "{", "/", ","}
	for c := range 256 {
		if !strings.ContainsRune("abcdefghijklmnopqrstuvwxyz0123456789-.", rune(c)) {
			all = append(all, string([]byte{'a', byte(c)}), string([]byte{byte(c), 'a'}))
		}
	}
	return all
}

func files(d *disk.Disk) string {
	var s strings.Builder
	for _, name := range d.Names() {
		b, e := d.Read(name)
		sure, f := d.Sure(name)
		fmt.Fprintf(&s, "%s: %q %d, sure %q %d; ", name, b, e, sure, f)
	}
	fmt.Fprintf(&s, "used %d", d.Used())
	return s.String()
}

// told is all that a disk tells, now and behind crashes that keep more and more.
func told(d *disk.Disk) string {
	s := files(d)
	for _, units := range []int{0, 1, 2, 3, 4, 5, 6, 7, 8, 9, math.MaxInt} {
		f := d.Fork()
		f.Crash(slices.Repeat([]int{units}, api.MaxFiles))
		s += fmt.Sprintf("\nbehind a crash that keeps %d: %s", units, files(f))
	}
	return s
}

func wantOK(t *testing.T, e api.Errno) {
	t.Helper()
	if e != api.OK {
		t.Fatalf("error %d", e)
	}
}

// wantRefused: the error, and nothing that a later call could tell.
func wantRefused(t *testing.T, d *disk.Disk, what string, errno api.Errno, call func() api.Errno) {
	t.Helper()
	before := told(d)
	if e := call(); e != errno {
		t.Errorf("%s: error %d; want %d", what, e, errno)
	}
	if after := told(d); after != before {
		t.Errorf("%s was refused and changed\n%s\nto\n%s", what, before, after)
	}
}

func wantNotWritten(t *testing.T, d *disk.Disk, name string, at int, b []byte, errno api.Errno) {
	t.Helper()
	what := fmt.Sprintf("Write(%.70q, %d) of %d bytes", name, at, len(b))
	wantRefused(t, d, what, errno, func() api.Errno { return d.Write(name, at, b) })
}

func wantBytes(t *testing.T, d *disk.Disk, name, want string) {
	t.Helper()
	if b, e := d.Read(name); e != api.OK || string(b) != want {
		t.Errorf("%s has %q, error %d; want %q", name, b, e, want)
	}
}

func wantSure(t *testing.T, d *disk.Disk, name, want string) {
	t.Helper()
	if b, e := d.Sure(name); e != api.OK || string(b) != want {
		t.Errorf("of %s last %q, error %d; want %q", name, b, e, want)
	}
}

func wantNotSure(t *testing.T, d *disk.Disk, name string) {
	t.Helper()
	if b, e := d.Sure(name); e != api.ErrGone || len(b) != 0 {
		t.Errorf("of %s last %q, error %d", name, b, e)
	}
}

func wantNames(t *testing.T, d *disk.Disk, want ...string) {
	t.Helper()
	if got := d.Names(); !slices.Equal(got, want) {
		t.Errorf("names are %q; want %q", got, want)
	}
}

func write(t *testing.T, d *disk.Disk, name string, at int, b string) {
	t.Helper()
	if e := d.Write(name, at, []byte(b)); e != api.OK {
		t.Fatalf("Write(%s, %d) of %d bytes: error %d", name, at, len(b), e)
	}
}

// P5.1
func TestWrite(t *testing.T) {
	d := disk.New(roomy)
	write(t, d, "a", 0, "xyz")
	wantBytes(t, d, "a", "xyz")
	for _, c := range []struct {
		at      int
		b, want string
	}{
		{0, "A", "Ayz"}, {1, "BC", "ABC"}, {3, "D", "ABCD"}, {3, "ef", "ABCef"}, {0, "", "ABCef"}, {5, "", "ABCef"}, {0, "123456", "123456"}, {2, "-", "12-456"},
	} {
		write(t, d, "a", c.at, c.b)
		wantBytes(t, d, "a", c.want)
		if d.Used() != len(c.want) {
			t.Errorf("used are %d", d.Used())
		}
	}
	wantNames(t, d, "a")
}

// P5.1: a file is there also by no bytes.
func TestWriteOfNone(t *testing.T) {
	d := disk.New(0)
	wantOK(t, d.Write("nil", 0, nil))
	wantOK(t, d.Write("empty", 0, []byte{}))
	wantNames(t, d, "empty", "nil")
	wantBytes(t, d, "nil", "")
	wantNotSure(t, d, "nil")
}

// P5.1
func TestNamesThatMayBe(t *testing.T) {
	d := disk.New(roomy)
	for _, name := range []string{"a", "z", "0", "9", "-", ".", "..", "wal-1", "wal.tmp", "abcdefghijklmnopqrstuvwxyz-0123456789.", strings.Repeat("z", api.MaxName)} {
		write(t, d, name, 0, name)
		wantBytes(t, d, name, name)
	}
}

// P5.1: each error of Write, and the order in which they are named.
func TestWriteErrors(t *testing.T) {
	long := make([]byte, api.MaxFile+1)
	d := disk.New(5)
	write(t, d, "a", 0, "abc")
	for _, name := range wrongNames() {
		wantNotWritten(t, d, name, 0, nil, api.ErrName)
		wantNotWritten(t, d, name, -1, long, api.ErrName)
	}
	for _, at := range []int{math.MinInt, -1, 4, 5, math.MaxInt} {
		wantNotWritten(t, d, "a", at, nil, api.ErrArg)
		wantNotWritten(t, d, "a", at, long, api.ErrArg)
	}
	for _, at := range []int{math.MinInt, -1, 1, math.MaxInt} {
		wantNotWritten(t, d, "new", at, nil, api.ErrArg)
		wantNotWritten(t, d, "new", at, long, api.ErrArg)
	}
	wantNotWritten(t, d, "a", 0, long, api.ErrLimit)
	wantNotWritten(t, d, "a", 3, long[:api.MaxFile-2], api.ErrLimit)
	wantNotWritten(t, d, "new", 0, long, api.ErrLimit)
	wantNotWritten(t, d, "a", 3, long[:api.MaxFile-3], api.ErrFull)
	wantNotWritten(t, d, "a", 0, make([]byte, 6), api.ErrFull)
	wantNotWritten(t, d, "a", 3, make([]byte, 3), api.ErrFull)
	wantNotWritten(t, d, "new", 0, make([]byte, 3), api.ErrFull)
}

// P5.1: MaxFile bytes are not too many.
func TestMaxFile(t *testing.T) {
	d := disk.New(roomy)
	whole := strings.Repeat("m", api.MaxFile)
	write(t, d, "a", 0, whole)
	write(t, d, "b", 0, whole[1:])
	write(t, d, "b", api.MaxFile-1, "m")
	write(t, d, "a", api.MaxFile, "")
	write(t, d, "a", 0, whole)
	wantBytes(t, d, "a", whole)
	wantBytes(t, d, "b", whole)
	for _, at := range []int{1, api.MaxFile - 1, api.MaxFile} {
		if e := d.Write("a", at, make([]byte, api.MaxFile-at+1)); e != api.ErrLimit {
			t.Errorf("Write at %d past MaxFile: error %d", at, e)
		}
	}
	if d.Used() != 2*api.MaxFile {
		t.Errorf("used are %d", d.Used())
	}
}

// P5.1: MaxFiles files are not too many, and those that are there can still be written.
func TestMaxFiles(t *testing.T) {
	d := disk.New(2)
	for i := range api.MaxFiles {
		write(t, d, fmt.Sprintf("f%d", i), 0, "")
	}
	wantNotWritten(t, d, "one-more", 0, nil, api.ErrLimit)
	wantNotWritten(t, d, "one-more", 0, []byte("abc"), api.ErrLimit)
	wantNotWritten(t, d, "one-more", 1, nil, api.ErrArg)
	write(t, d, "f0", 0, "ab")
	wantNotWritten(t, d, "f0", 2, []byte("c"), api.ErrFull)
	wantOK(t, d.Rename("f0", "other"))
	wantNotWritten(t, d, "one-more", 0, nil, api.ErrLimit)
	wantOK(t, d.Remove("f1"))
	write(t, d, "one-more", 0, "")
}

// P5.1: the last byte of the room, and one more; a room below 0 is 0.
func TestRoom(t *testing.T) {
	d := disk.New(4)
	write(t, d, "a", 0, "ab")
	write(t, d, "b", 0, "cd")
	wantNotWritten(t, d, "b", 2, []byte("e"), api.ErrFull)
	write(t, d, "b", 0, "CD")
	write(t, d, "c", 0, "")
	wantOK(t, d.Cut("a", 1))
	write(t, d, "c", 0, "e")
	wantNotWritten(t, d, "a", 1, []byte("f"), api.ErrFull)
	for _, room := range []int{math.MinInt, -1, 0} {
		d := disk.New(room)
		wantNotWritten(t, d, "a", 0, []byte("a"), api.ErrFull)
		write(t, d, "a", 0, "")
		wantNames(t, d, "a")
	}
}

// P5.1
func TestCut(t *testing.T) {
	d := disk.New(roomy)
	write(t, d, "a", 0, "abcde")
	for _, size := range []int{math.MinInt, -1, 6, math.MaxInt} {
		wantRefused(t, d, fmt.Sprint("Cut to ", size), api.ErrArg, func() api.Errno { return d.Cut("a", size) })
		wantRefused(t, d, fmt.Sprint("Cut of none to ", size), api.ErrGone, func() api.Errno { return d.Cut("b", size) })
	}
	for _, c := range []struct {
		size int
		want string
	}{{5, "abcde"}, {4, "abcd"}, {1, "a"}, {0, ""}, {0, ""}} {
		wantOK(t, d.Cut("a", c.size))
		wantBytes(t, d, "a", c.want)
	}
	write(t, d, "a", 0, "xy")
	wantBytes(t, d, "a", "xy")
}

// P5.2, P5.3
func TestSync(t *testing.T) {
	d := disk.New(roomy)
	write(t, d, "a", 0, "abc")
	wantNotSure(t, d, "a")
	wantOK(t, d.Sync("a"))
	wantSure(t, d, "a", "abc")
	write(t, d, "a", 1, "XYZ")
	wantOK(t, d.Cut("a", 3))
	wantSure(t, d, "a", "abc")
	wantBytes(t, d, "a", "aXY")
	wantOK(t, d.Sync("a"))
	wantOK(t, d.Sync("a"))
	wantSure(t, d, "a", "aXY")
	write(t, d, "b", 0, "")
	wantNotSure(t, d, "b")
	wantOK(t, d.Sync("b"))
	wantSure(t, d, "b", "")
}

// P5.2, P5.3: of what is not there, and of what is no name.
func TestGone(t *testing.T) {
	d := disk.New(roomy)
	write(t, d, "a", 0, "abc")
	for _, name := range append(wrongNames(), "b", "aa", "a.") {
		wantRefused(t, d, "Cut", api.ErrGone, func() api.Errno { return d.Cut(name, 0) })
		wantRefused(t, d, "Sync", api.ErrGone, func() api.Errno { return d.Sync(name) })
		wantRefused(t, d, "Remove", api.ErrGone, func() api.Errno { return d.Remove(name) })
		wantRefused(t, d, "Rename", api.ErrGone, func() api.Errno { return d.Rename(name, "c") })
		wantRefused(t, d, "Rename to itself", api.ErrGone, func() api.Errno { return d.Rename(name, name) })
		wantRefused(t, d, "Rename to no name", api.ErrGone, func() api.Errno { return d.Rename(name, "") })
		if b, e := d.Read(name); e != api.ErrGone || len(b) != 0 {
			t.Errorf("Read(%q): %q, error %d", name, b, e)
		}
		wantNotSure(t, d, name)
	}
	for _, name := range wrongNames() {
		wantRefused(t, d, "Rename to what is no name", api.ErrName, func() api.Errno { return d.Rename("a", name) })
	}
}

// P5.2: a file's changes, and what lasts of it, go with it; what the other one was is no more.
func TestRename(t *testing.T) {
	d := disk.New(roomy)
	write(t, d, "a", 0, "abc")
	wantOK(t, d.Sync("a"))
	write(t, d, "a", 1, "X")
	write(t, d, "b", 0, "other")
	wantOK(t, d.Sync("b"))
	wantRefused(t, d, "Rename to itself", api.OK, func() api.Errno { return d.Rename("a", "a") })
	wantOK(t, d.Rename("a", "b"))
	wantNames(t, d, "b")
	wantBytes(t, d, "b", "aXc")
	wantSure(t, d, "b", "abc")
	for units, want := range []string{"abc", "aXc", "aXc"} {
		f := d.Fork()
		f.Crash([]int{units})
		wantNames(t, f, "b")
		wantBytes(t, f, "b", want)
	}
	write(t, d, "c", 0, "unsure")
	wantOK(t, d.Rename("c", "b"))
	wantNotSure(t, d, "b")
	d.Crash(nil)
	wantNames(t, d)
}

// P5.2: what is removed, or renamed, is so behind every crash.
func TestRemoveAndRenameLast(t *testing.T) {
	d := disk.New(roomy)
	for _, name := range []string{"a", "b", "c"} {
		write(t, d, name, 0, name)
		wantOK(t, d.Sync(name))
	}
	wantOK(t, d.Remove("a"))
	wantOK(t, d.Rename("b", "d"))
	for units := range 3 {
		f := d.Fork()
		f.Crash([]int{units, units, units})
		wantNames(t, f, "c", "d")
		wantBytes(t, f, "d", "b")
	}
	wantOK(t, d.Write("a", 0, nil))
	wantBytes(t, d, "a", "")
	wantNotSure(t, d, "a")
}

// P5.3
func TestNamesAndUsed(t *testing.T) {
	d := disk.New(roomy)
	wantNames(t, d)
	if d.Used() != 0 {
		t.Errorf("used are %d", d.Used())
	}
	used := 0
	for i, name := range []string{"wal-9", "b", "wal-10", "-", "a.", "a", "ab", "9", ".", "a-"} {
		write(t, d, name, 0, strings.Repeat("x", i))
		if used += i; d.Used() != used {
			t.Errorf("used are %d; want %d", d.Used(), used)
		}
	}
	wantNames(t, d, "-", ".", "9", "a", "a-", "a.", "ab", "b", "wal-10", "wal-9")
}

// P1: a nil disk's errors are ErrNil ahead of all others.
func TestNilDisk(t *testing.T) {
	var d *disk.Disk
	for _, name := range append(wrongNames(), "a") {
		for what, e := range map[string]api.Errno{
			"Write": d.Write(name, -1, make([]byte, api.MaxFile+1)), "Cut": d.Cut(name, -1), "Sync": d.Sync(name),
			"Rename": d.Rename(name, name), "Remove": d.Remove(name),
		} {
			if e != api.ErrNil {
				t.Errorf("%s: error %d", what, e)
			}
		}
		if b, e := d.Read(name); len(b) != 0 || e != api.ErrNil {
			t.Errorf("Read: %q, error %d", b, e)
		}
		if b, e := d.Sure(name); len(b) != 0 || e != api.ErrNil {
			t.Errorf("Sure: %q, error %d", b, e)
		}
	}
	d.Crash(nil)
	d.Crash([]int{-1, 0, 1})
	if len(d.Names()) != 0 || d.Used() != 0 || d.Fork() != nil {
		t.Error("a nil disk has something")
	}
}

// spoil writes over a list, and over its spare room.
func spoil(b []byte) {
	b = b[:cap(b)]
	for i := range b {
		b[i] = '?'
	}
}

// P3
func TestMemory(t *testing.T) {
	d := disk.New(roomy)
	whole := []byte("abcdefgh")
	wantOK(t, d.Write("a", 0, whole[:4]))
	wantOK(t, d.Sync("a"))
	wantOK(t, d.Write("a", 4, whole[4:6]))
	if string(whole) != "abcdefgh" {
		t.Errorf("what was written became %q", whole)
	}
	before := told(d)
	spoil(whole)
	for range 2 {
		b, _ := d.Read("a")
		spoil(b)
		_ = append(b, '?')
		b, _ = d.Sure("a")
		spoil(b)
		names := d.Names()
		names[0] = "z"
		_ = append(names[:0], "y", "x")
	}
	if after := told(d); after != before {
		t.Errorf("%s became %s", before, after)
	}
	read, _ := d.Read("a")
	sure, _ := d.Sure("a")
	keep := append(make([]int, 0, 4), 1)
	write(t, d, "a", 0, "ZZZZZZ")
	d.Crash(keep)
	if string(read) != "abcdef" || string(sure) != "abcd" || keep[0] != 1 || keep[:2][1] != 0 {
		t.Errorf("what was told became %q and %q, keep %v", read, sure, keep)
	}
}

// P4, P5.4: whatever is done to one of both, the other one stays as it was.
func TestFork(t *testing.T) {
	for _, turned := range []bool{false, true} {
		a := disk.New(20)
		write(t, a, "a", 0, "abc")
		wantOK(t, a.Sync("a"))
		write(t, a, "a", 1, "XYZ")
		write(t, a, "b", 0, "new")
		write(t, a, "c", 0, "c")
		b := a.Fork()
		if told(a) != told(b) {
			t.Errorf("%s\nis not\n%s", told(a), told(b))
		}
		if turned {
			a, b = b, a
		}
		before := told(a)
		for _, e := range []api.Errno{
			b.Write("a", 0, []byte("12")), b.Cut("a", 3), b.Write("a", 3, []byte("34")), b.Sync("a"), b.Write("a", 5, []byte("5")), b.Write("a", 0, []byte("?")),
			b.Cut("b", 1), b.Write("b", 1, []byte("!")), b.Remove("c"), b.Rename("b", "d"), b.Write("e", 0, nil),
		} {
			wantOK(t, e)
		}
		if told(a) != before {
			t.Errorf("%s\nbecame\n%s", before, told(a))
		}
		b.Crash([]int{1, 1})
		write(t, b, "a", 0, "??")
		if told(a) != before {
			t.Errorf("a crash of the fork: %s\nbecame\n%s", before, told(a))
		}
		wantNotWritten(t, a, "f", 0, make([]byte, 13), api.ErrFull)
		write(t, a, "f", 0, strings.Repeat("f", 12))
	}
}

// P4: both go on from however many changes there were.
func TestForksGoOnApart(t *testing.T) {
	for count := range 10 {
		a := disk.New(roomy)
		write(t, a, "a", 0, "")
		for range count {
			write(t, a, "a", 0, "x")
		}
		b := a.Fork()
		write(t, a, "a", 0, "A")
		write(t, b, "a", 0, "B")
		a.Crash([]int{math.MaxInt})
		b.Crash([]int{math.MaxInt})
		wantBytes(t, a, "a", "A")
		wantBytes(t, b, "a", "B")
	}
}
