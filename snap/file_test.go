package snap_test

import (
	"fmt"
	"math"
	"slices"
	"strings"
	"testing"

	"tollgate/api"
	"tollgate/disk"
	"tollgate/snap"
)

const roomy = math.MaxInt

func fileName(index int) string { return fmt.Sprintf("snap-%d", index) }

func files(d *disk.Disk) string {
	var s strings.Builder
	for _, name := range d.Names() {
		b, e := d.Read(name)
		sure, f := d.Sure(name)
		fmt.Fprintf(&s, "%s: %q %d, sure %q %d; ", name, b, e, sure, f)
	}
	return s.String()
}

// planted is a disk with synced files, names and bytes by turns.
func planted(t *testing.T, files ...string) *disk.Disk {
	t.Helper()
	d := disk.New(roomy)
	for i := 0; i < len(files); i += 2 {
		wantOK(t, d.Write(files[i], 0, []byte(files[i+1])))
		wantOK(t, d.Sync(files[i]))
	}
	return d
}

func wantNames(t *testing.T, d *disk.Disk, want ...string) {
	t.Helper()
	if !slices.Equal(d.Names(), want) {
		t.Errorf("the disk has %q; want %q", d.Names(), want)
	}
}

func wantNoSpare(t *testing.T, d *disk.Disk) {
	t.Helper()
	if slices.Contains(d.Names(), "snap.tmp") {
		t.Errorf("the disk has %q", d.Names())
	}
}

func wantLoaded(t *testing.T, d *disk.Disk, want api.Snap) {
	t.Helper()
	before := files(d)
	if s, e := snap.Load(d); e != api.OK || told(s) != told(want) {
		t.Errorf("Load of %q: %.200s, error %d; want %.200s", d.Names(), told(s), e, told(want))
	}
	if files(d) != before {
		t.Error("Load changed the disk")
	}
}

func wantNotLoaded(t *testing.T, d *disk.Disk) {
	t.Helper()
	before := files(d)
	if s, e := snap.Load(d); e != api.ErrGone || told(s) != told(api.Snap{}) {
		t.Errorf("Load of %q: %.200s, error %d", d.Names(), told(s), e)
	}
	if files(d) != before {
		t.Error("Load changed the disk")
	}
}

// wantNewest: that one, or none, if it is the zero one.
func wantNewest(t *testing.T, d *disk.Disk, want api.Snap) {
	t.Helper()
	if want.Mark.Index == 0 {
		wantNotLoaded(t, d)
	} else {
		wantLoaded(t, d, want)
	}
}

// P7.2, P7.7: the document's first example.
func TestSave(t *testing.T) {
	d := disk.New(roomy)
	wantNotLoaded(t, d)
	three, twelve := snapshot(3, 1, "three"), snapshot(12, 2, "twelve")
	wantOK(t, snap.Save(d, three))
	wantNames(t, d, "snap-3")
	wantLoaded(t, d, three)
	wantOK(t, snap.Save(d, twelve))
	wantNames(t, d, "snap-12")
	wantLoaded(t, d, twelve)
	b, _ := d.Read("snap-12")
	sure, _ := d.Sure("snap-12")
	if string(b) != string(put(t, twelve)) || string(sure) != string(b) {
		t.Errorf("the file has %x, sure %x; want %x", b, sure, put(t, twelve))
	}
}

// P7.2: a smaller index leaves the greater one, which counts; the same index takes its place.
func TestSaveSmallerAndSame(t *testing.T) {
	d := disk.New(roomy)
	twelve := snapshot(12, 2, "twelve")
	wantOK(t, snap.Save(d, twelve))
	wantOK(t, snap.Save(d, snapshot(3, 9, "three")))
	wantNames(t, d, "snap-12", "snap-3")
	wantLoaded(t, d, twelve)
	twelve = snapshot(12, 1, "12")
	wantOK(t, snap.Save(d, twelve))
	wantNames(t, d, "snap-12")
	wantLoaded(t, d, twelve)
	wantOK(t, snap.Save(d, snapshot(3, 9, "")))
	wantOK(t, snap.Save(d, snapshot(5, 9, "")))
	wantNames(t, d, "snap-12", "snap-5")
	most := snapshot(api.MaxNum, 1, "most")
	wantOK(t, snap.Save(d, most))
	wantNames(t, d, "snap-1099511627776")
	wantLoaded(t, d, most)
	wantOK(t, snap.Save(d, snapshot(1, 1, "")))
	wantOK(t, snap.Save(d, snapshot(2, 1, "")))
	wantNames(t, d, "snap-1099511627776", "snap-2")
	wantLoaded(t, d, most)
}

// P7.2: all files of smaller indices go, whole or not; files of other names stay.
func TestSaveRemovesSmallerOnes(t *testing.T) {
	others := []string{"snap", "snap-", "snap-0", "snap-03", "snap--3", "snap-3a", "snap-3.", "snap-1099511627777", "wal-3", "snap.3", "3", "-3", "snap-99999999999999999999"}
	var l []string
	for _, name := range others {
		l = append(l, name, string(put(t, snapshot(3, 3, "other"))))
	}
	l = append(l, "snap-1", "torn", "snap-9", "", "snap-11", "torn too")
	d := planted(t, l...)
	wantNotLoaded(t, d)
	s := snapshot(10, 1, "ten")
	wantNotSaved(t, d, s, api.ErrLimit) // MaxFiles files
	wantOK(t, d.Remove("snap-1"))
	wantOK(t, snap.Save(d, s))
	wantNames(t, d, slices.Sorted(slices.Values(append(slices.Clone(others), "snap-10", "snap-11")))...)
	wantLoaded(t, d, s)
	wantOK(t, d.Remove("wal-3"))
	wantOK(t, d.Remove("snap-11"))
	wantOK(t, d.Write("snap-1", 0, nil))
	wantOK(t, d.Write("snap-8", 0, nil))
	wantOK(t, snap.Save(d, snapshot(2, 1, "two")))
	wantNames(t, d, slices.Sorted(slices.Values(append(slices.DeleteFunc(slices.Clone(others), func(name string) bool { return name == "wal-3" }), "snap-10", "snap-2", "snap-8")))...)
	wantLoaded(t, d, s)
}

// wantNotSaved: the error, and the disk is as it was.
func wantNotSaved(t *testing.T, d *disk.Disk, s api.Snap, errno api.Errno) {
	t.Helper()
	before := files(d)
	if e := snap.Save(d, s); e != errno {
		t.Errorf("Save of %.100s: error %d; want %d", told(s), e, errno)
	}
	if after := files(d); after != before {
		t.Errorf("Save was refused and changed\n%s\nto\n%s", before, after)
	}
}

// P7.2: in the document's order.
func TestNotSaved(t *testing.T) {
	right, wrong, long := snapshot(3, 2, "abc"), snapshot(0, 2, "abc"), snapshot(3, 2, strings.Repeat("d", mostData+1))
	for _, s := range []api.Snap{right, wrong, long, {}} {
		if e := snap.Save(nil, s); e != api.ErrNil {
			t.Errorf("Save on no disk: error %d", e)
		}
	}
	if s, e := snap.Load(nil); e != api.ErrNil || told(s) != told(api.Snap{}) {
		t.Errorf("Load of no disk: error %d", e)
	}
	full := disk.New(0)
	other := planted(t, "snap-2", string(put(t, snapshot(2, 2, "two"))), "snap.tmp", "left")
	for _, d := range []*disk.Disk{full, other} {
		wantNotSaved(t, d, wrong, api.ErrArg)
		wantNotSaved(t, d, api.Snap{}, api.ErrArg)
		wantNotSaved(t, d, long, api.ErrLimit)
		for _, n := range wrongNumbers {
			wantNotSaved(t, d, snapshot(n, 1, ""), api.ErrArg)
			wantNotSaved(t, d, snapshot(1, n, ""), api.ErrArg)
		}
	}
	wantNotSaved(t, full, right, api.ErrFull)
	wantNotLoaded(t, full)
}

// P7.2: both snapshots must find room; if they don't, the elder one stays.
func TestSaveWithoutRoom(t *testing.T) {
	elder, s := snapshot(2, 2, "two"), snapshot(3, 2, "three")
	size := len(put(t, elder)) + len(put(t, s))
	for short := range len(put(t, s)) + 1 {
		d := disk.New(size - short)
		wantOK(t, snap.Save(d, elder))
		if short > 0 {
			wantNotSaved(t, d, s, api.ErrFull)
			wantLoaded(t, d, elder)
			continue
		}
		wantOK(t, snap.Save(d, s))
		wantNames(t, d, "snap-3")
		wantLoaded(t, d, s)
	}
}

// P7.2: what stood in snap.tmp goes, be it longer, with an error too, and makes room ahead of the new one.
func TestSaveOverSpare(t *testing.T) {
	s := snapshot(3, 2, "three")
	size := len(put(t, s))
	for _, left := range []string{"", "x", strings.Repeat("x", size), strings.Repeat("x", size+50)} {
		d := disk.New(size + 50)
		wantOK(t, d.Write("snap.tmp", 0, []byte(left)))
		wantOK(t, d.Sync("snap.tmp"))
		wantNotLoaded(t, d)
		wantOK(t, snap.Save(d, s))
		wantNames(t, d, "snap-3")
		wantLoaded(t, d, s)
	}
	d := disk.New(size - 1)
	wantOK(t, d.Write("snap.tmp", 0, []byte("left")))
	if e := snap.Save(d, s); e != api.ErrFull {
		t.Errorf("Save without room: error %d", e)
	}
	wantNames(t, d)
}

// P7.2: a snapshot in snap.tmp is none until it has its name.
func TestSpareIsNotLoaded(t *testing.T) {
	d := planted(t, "snap.tmp", string(put(t, snapshot(9, 9, "new"))))
	wantNotLoaded(t, d)
	wantOK(t, snap.Save(d, snapshot(2, 2, "two")))
	wantNames(t, d, "snap-2")
	wantLoaded(t, d, snapshot(2, 2, "two"))
}

// P7.2: with MaxFiles files there is no place for snap.tmp, but for one that was there.
func TestSaveWithMaxFiles(t *testing.T) {
	d := disk.New(roomy)
	elder := snapshot(2, 2, "two")
	wantOK(t, snap.Save(d, elder))
	for i := range api.MaxFiles - 1 {
		wantOK(t, d.Write(fmt.Sprintf("other%d", i), 0, nil))
	}
	wantNotSaved(t, d, snapshot(3, 2, "three"), api.ErrLimit)
	wantNotSaved(t, d, snapshot(2, 2, "another"), api.ErrLimit)
	wantLoaded(t, d, elder)
	wantOK(t, d.Rename("other3", "snap.tmp"))
	wantOK(t, snap.Save(d, snapshot(3, 2, "three")))
	wantLoaded(t, d, snapshot(3, 2, "three"))
}

// P7.2: the greatest whole one counts; a file is not whole that is torn, goes on, or tells another index than its name.
func TestLoadNewestWhole(t *testing.T) {
	whole := func(index int) string { return string(put(t, snapshot(index, 4, fmt.Sprint(index)))) }
	d := planted(t,
		"snap-9", whole(9), "snap-10", whole(10), "snap-11", whole(11)+"\x00", "snap-12", whole(12)[1:],
		"snap-100", whole(10), "snap-101", "", "snap-102", whole(102)[:20], "snap-013", whole(13), "snap-0", whole(200), "other", whole(300), "snap-1099511627777", whole(400))
	for _, want := range []int{10, 9} {
		wantLoaded(t, d, snapshot(want, 4, fmt.Sprint(want)))
		wantOK(t, d.Remove(fileName(want)))
	}
	wantNotLoaded(t, d)
	wantOK(t, d.Rename("snap-013", "snap-13"))
	wantLoaded(t, d, snapshot(13, 4, "13"))
}

// P7.2: it is Read that tells a file, synced or not.
func TestLoadUnsynced(t *testing.T) {
	d := disk.New(roomy)
	wantOK(t, d.Write("snap-7", 0, put(t, snapshot(7, 7, "seven"))))
	wantLoaded(t, d, snapshot(7, 7, "seven"))
	d.Crash(nil)
	wantNotLoaded(t, d)
}

// P7.6 (E3): Save's steps, one behind the other on a disk, and a crash behind each that keeps more and more.
func TestCrashWhileSaving(t *testing.T) {
	for _, was := range []api.Snap{{}, snapshot(3, 1, "three"), snapshot(12, 1, "the elder twelve"), snapshot(20, 1, "twenty")} {
		s := snapshot(12, 2, "twelve")
		is := s
		if was.Mark.Index > s.Mark.Index {
			is = was
		}
		for units := range len(put(t, s)) + 2 {
			d := disk.New(roomy)
			if was.Mark.Index > 0 {
				wantOK(t, snap.Save(d, was))
			}
			for i, step := range []func() api.Errno{
				func() api.Errno { return d.Write("snap.tmp", 0, put(t, s)) },
				func() api.Errno { return d.Sync("snap.tmp") },
				func() api.Errno { return d.Rename("snap.tmp", "snap-12") },
				func() api.Errno { return removed(d, was.Mark.Index, 12) },
			} {
				wantOK(t, step())
				want := was
				if i >= 2 {
					want = is
				}
				wantBehindCrash(t, d, units, want, s)
			}
		}
	}
}

// removed takes the elder file away, where it is of a smaller index.
func removed(d *disk.Disk, elder, index int) api.Errno {
	if elder == 0 || elder >= index {
		return api.OK
	}
	return d.Remove(fileName(elder))
}

// wantBehindCrash: that is the newest one behind a crash, and Save goes on from there.
func wantBehindCrash(t *testing.T, d *disk.Disk, units int, want, s api.Snap) {
	t.Helper()
	f := d.Fork()
	f.Crash(slices.Repeat([]int{units}, api.MaxFiles))
	wantNewest(t, f, want)
	wantOK(t, snap.Save(f, s))
	if want.Mark.Index <= s.Mark.Index {
		want = s
	}
	wantLoaded(t, f, want)
	wantNoSpare(t, f)
}

// P7.6 (E3): behind Save no crash takes anything from it.
func TestCrashBehindSave(t *testing.T) {
	d := disk.New(roomy)
	for i := 1; i < 30; i++ {
		s := snapshot(i, i, strings.Repeat("d", i%7))
		wantOK(t, snap.Save(d, s))
		d.Crash([]int{i % 4})
		wantLoaded(t, d, s)
	}
}

// P3: the disk keeps nothing of what was handed in; what is loaded is new.
func TestFileMemory(t *testing.T) {
	d := disk.New(roomy)
	s := snapshot(3, 2, "abc")
	want := told(s)
	wantOK(t, snap.Save(d, s))
	if told(s) != want {
		t.Error("Save changed what was handed in")
	}
	s.Data[0], s.Members.Voters[0] = 'X', 9
	got, _ := snap.Load(d)
	if told(got) != want {
		t.Errorf("what is kept changed with what was handed in: %s", told(got))
	}
	got.Data[0], got.Members.Voters[0] = 'Y', 8
	if again, _ := snap.Load(d); told(again) != want {
		t.Errorf("what is kept changed with what was loaded: %s", told(again))
	}
}
