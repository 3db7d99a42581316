package disk_test

import (
	"math"
	"strings"
	"testing"

	"tollgate/api"
	"tollgate/disk"
)

// wantCrashed: what a file has, and what lasts of it, behind a crash of a fork.
func wantCrashed(t *testing.T, d *disk.Disk, keep []int, want string) {
	t.Helper()
	f := d.Fork()
	f.Crash(keep)
	if len(f.Names()) != 1 {
		t.Errorf("keep %v: names are %q", keep, f.Names())
	}
	wantBytes(t, f, "a", want)
	wantSure(t, f, "a", want)
	wantSame(t, f)
}

// wantSame, P5.5: a further crash changes nothing, whatever it would keep.
func wantSame(t *testing.T, d *disk.Disk) {
	t.Helper()
	before := files(d)
	for _, keep := range [][]int{nil, {}, {0, 1, 2}, {-1}, {math.MaxInt, math.MinInt, math.MaxInt}} {
		d.Crash(keep)
		if after := files(d); after != before {
			t.Errorf("a further crash that keeps %v changed %s to %s", keep, before, after)
		}
	}
}

func wantCrashedAway(t *testing.T, d *disk.Disk, keep []int) {
	t.Helper()
	f := d.Fork()
	f.Crash(keep)
	if len(f.Names()) != 0 || f.Used() != 0 {
		t.Errorf("keep %v: %s", keep, files(f))
	}
}

// P5.4: the document's examples.
func TestCrashExamples(t *testing.T) {
	d := disk.New(roomy)
	write(t, d, "a", 0, "xyz")
	wantOK(t, d.Sync("a"))
	write(t, d, "a", 1, "pq")
	wantCrashed(t, d, []int{1}, "xpz")
	d = disk.New(roomy)
	write(t, d, "b", 0, "x")
	wantCrashedAway(t, d, nil)
}

// P5.4: none, some, all and more than all units; each byte of a Write is one, a Cut is one.
func TestCrashUnitByUnit(t *testing.T) {
	d := disk.New(roomy)
	write(t, d, "a", 0, "0123")
	wantOK(t, d.Sync("a"))
	write(t, d, "a", 2, "abc")
	write(t, d, "a", 1, "")
	wantOK(t, d.Cut("a", 1))
	wantOK(t, d.Cut("a", 1))
	write(t, d, "a", 0, "zy")
	write(t, d, "a", 2, "x")
	for units, want := range []string{"0123", "01a3", "01ab", "01abc", "0", "0", "z", "zy", "zyx", "zyx", "zyx"} {
		wantCrashed(t, d, []int{units}, want)
		wantCrashed(t, d, []int{units, 7, -7}, want)
	}
	for _, keep := range [][]int{nil, {}, {-1}, {math.MinInt}} {
		wantCrashed(t, d, keep, "0123")
	}
	wantCrashed(t, d, []int{math.MaxInt}, "zyx")
}

// P5.4: of a file of which nothing lasted something is there by one unit, even if that leaves it empty.
func TestCrashOfWhatNeverLasted(t *testing.T) {
	d := disk.New(roomy)
	write(t, d, "a", 0, "")
	wantCrashedAway(t, d, nil)
	wantCrashedAway(t, d, []int{math.MaxInt})
	cut := d.Fork()
	wantOK(t, cut.Cut("a", 0))
	wantCrashedAway(t, cut, []int{0})
	wantCrashed(t, cut, []int{1}, "")
	write(t, d, "a", 0, "xy")
	wantOK(t, d.Cut("a", 0))
	for _, units := range []int{math.MinInt, -1, 0} {
		wantCrashedAway(t, d, []int{units})
	}
	for units, want := range []string{"x", "xy", "", ""} {
		wantCrashed(t, d, []int{units + 1}, want)
	}
}

// P5.4: what a crash left lasts, also without bytes.
func TestCrashOfWhatLastsEmpty(t *testing.T) {
	d := disk.New(roomy)
	write(t, d, "a", 0, "")
	wantOK(t, d.Sync("a"))
	wantCrashed(t, d, nil, "")
	write(t, d, "a", 0, "x")
	wantCrashed(t, d, nil, "")
	wantCrashed(t, d, []int{1}, "x")
	d.Crash(nil)
	write(t, d, "a", 0, "y")
	d.Crash(nil)
	wantBytes(t, d, "a", "")
	wantSure(t, d, "a", "")
}

// P5.4: keep's places are those of the names, also where one in between goes.
func TestCrashOrder(t *testing.T) {
	d := disk.New(roomy)
	for _, name := range []string{"d", "b", "a", "c"} {
		write(t, d, name, 0, name+name+name)
	}
	d.Crash([]int{1, 0, 2})
	wantNames(t, d, "a", "c")
	wantBytes(t, d, "a", "a")
	wantBytes(t, d, "c", "cc")
	wantSame(t, d)
}

// P5.4: behind a crash changes begin anew.
func TestChangesBehindACrash(t *testing.T) {
	d := disk.New(roomy)
	write(t, d, "a", 0, "abc")
	d.Crash([]int{2})
	write(t, d, "a", 2, "XY")
	wantSure(t, d, "a", "ab")
	wantCrashed(t, d, nil, "ab")
	wantCrashed(t, d, []int{1}, "abX")
	wantOK(t, d.Sync("a"))
	wantCrashed(t, d, nil, "abXY")
}

// P5.6: a file that is written, synced and renamed over another one is whole; ahead of that the other one is.
func TestSyncedAndRenamed(t *testing.T) {
	for units := range 9 {
		keep := []int{units, units}
		d := disk.New(roomy)
		write(t, d, "a", 0, "elder")
		wantOK(t, d.Sync("a"))
		for _, step := range []struct {
			do   func() api.Errno
			want string
		}{
			{func() api.Errno { return d.Write("tmp", 0, []byte("newer")) }, "elder"},
			{func() api.Errno { return d.Sync("tmp") }, "elder"},
			{func() api.Errno { return d.Rename("tmp", "a") }, "newer"},
		} {
			wantOK(t, step.do())
			f := d.Fork()
			f.Crash(keep)
			wantBytes(t, f, "a", step.want)
			wantSure(t, f, "a", step.want)
		}
	}
}

// P5.7, P5.1: a crash that undoes a Cut may overfill a disk; then nothing is written until there is room.
func TestOverfilled(t *testing.T) {
	d := disk.New(4)
	write(t, d, "a", 0, "abcd")
	wantOK(t, d.Sync("a"))
	wantOK(t, d.Cut("a", 0))
	write(t, d, "b", 0, "xyz")
	wantOK(t, d.Sync("b"))
	d.Crash(nil)
	if d.Used() != 7 {
		t.Fatalf("used are %d", d.Used())
	}
	wantNotWritten(t, d, "a", 4, []byte("e"), api.ErrFull)
	wantNotWritten(t, d, "a", 0, []byte("e"), api.ErrFull)
	wantNotWritten(t, d, "a", 0, nil, api.ErrFull)
	wantNotWritten(t, d, "c", 0, nil, api.ErrFull)
	wantOK(t, d.Cut("a", 2))
	wantNotWritten(t, d, "a", 0, []byte("e"), api.ErrFull)
	wantOK(t, d.Cut("a", 1))
	write(t, d, "a", 0, "e")
	wantBytes(t, d, "a", "e")
	wantNotWritten(t, d, "a", 1, []byte("f"), api.ErrFull)
}

// P5.4 with long files: the units of one Write up to MaxFile.
func TestCrashOfALongFile(t *testing.T) {
	d := disk.New(roomy)
	whole := strings.Repeat("0123456789abcdef", api.MaxFile/16)
	write(t, d, "a", 0, whole)
	for _, units := range []int{1, 17, api.MaxFile - 1, api.MaxFile, api.MaxFile + 1} {
		wantCrashed(t, d, []int{units}, whole[:min(units, len(whole))])
	}
}
