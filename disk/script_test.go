package disk_test

import (
	"fmt"
	"maps"
	"slices"
	"strings"
	"testing"

	"tollgate/api"
	"tollgate/disk"
)

// chance is a row of numbers that is the same each time.
type chance uint64

func (c *chance) below(n int) int {
	*c = *c*6364136223846793005 + 1442695040888963407
	return int(uint64(*c) >> 33 % uint64(n))
}

// plainFile holds what the file was behind every unit: the first one is what lasts.
type plainFile struct {
	states []string
	lasts  bool
}

func (f *plainFile) now() string { return f.states[len(f.states)-1] }

type plainDisk struct {
	room  int
	files map[string]*plainFile
}

func (p *plainDisk) used() int {
	n := 0
	for _, f := range p.files {
		n += len(f.now())
	}
	return n
}

func (p *plainDisk) write(name string, at int, b string) api.Errno {
	f, there := p.files[name]
	if !there {
		f = &plainFile{states: []string{""}}
	}
	was := f.now()
	if at < 0 || at > len(was) {
		return api.ErrArg
	}
	if !there && len(p.files) == api.MaxFiles {
		return api.ErrLimit
	}
	if p.used()-len(was)+max(len(was), at+len(b)) > p.room {
		return api.ErrFull
	}
	for i := range len(b) {
		was := f.now()
		f.states = append(f.states, was[:at+i]+b[i:i+1]+was[min(at+i+1, len(was)):])
	}
	p.files[name] = f
	return api.OK
}

func (p *plainDisk) cut(name string, size int) api.Errno {
	f, there := p.files[name]
	if !there {
		return api.ErrGone
	}
	if size < 0 || size > len(f.now()) {
		return api.ErrArg
	}
	f.states = append(f.states, f.now()[:size])
	return api.OK
}

func (p *plainDisk) sync(name string) api.Errno {
	f, there := p.files[name]
	if !there {
		return api.ErrGone
	}
	p.files[name] = &plainFile{[]string{f.now()}, true}
	return api.OK
}

func (p *plainDisk) rename(from, to string) api.Errno {
	f, there := p.files[from]
	if !there {
		return api.ErrGone
	}
	if from != to {
		p.files[to] = f
		delete(p.files, from)
	}
	return api.OK
}

func (p *plainDisk) remove(name string) api.Errno {
	if _, there := p.files[name]; !there {
		return api.ErrGone
	}
	delete(p.files, name)
	return api.OK
}

func (p *plainDisk) crash(keep []int) {
	for i, name := range slices.Sorted(maps.Keys(p.files)) {
		f, units := p.files[name], 0
		if i < len(keep) {
			units = min(max(keep[i], 0), len(f.states)-1)
		}
		if !f.lasts && units == 0 {
			delete(p.files, name)
			continue
		}
		p.files[name] = &plainFile{[]string{f.states[units]}, true}
	}
}

func (p *plainDisk) told() string {
	var s strings.Builder
	for _, name := range slices.Sorted(maps.Keys(p.files)) {
		f := p.files[name]
		if f.lasts {
			fmt.Fprintf(&s, "%s: %q %d, sure %q %d; ", name, f.now(), api.OK, f.states[0], api.OK)
		} else {
			fmt.Fprintf(&s, "%s: %q %d, sure %q %d; ", name, f.now(), api.OK, "", api.ErrGone)
		}
	}
	fmt.Fprintf(&s, "used %d", p.used())
	return s.String()
}

// step does the same to both and answers both errors; crashed: it was a crash.
func (p *plainDisk) step(d *disk.Disk, c *chance) (got, want api.Errno, crashed bool) {
	name, other := string(rune('a'+c.below(20))), string(rune('a'+c.below(20)))
	if there := d.Names(); len(there) > 0 && c.below(4) > 0 {
		name = there[c.below(len(there))]
	}
	now, _ := d.Read(name)
	place := c.below(len(now)+3) - 1
	switch c.below(16) {
	case 0:
		return d.Remove(name), p.remove(name), false
	case 1:
		return d.Rename(name, other), p.rename(name, other), false
	case 2, 3, 4:
		return d.Sync(name), p.sync(name), false
	case 5, 6:
		return d.Cut(name, place), p.cut(name, place), false
	case 7:
		var keep []int
		for range c.below(22) {
			keep = append(keep, c.below(14)-2)
		}
		d.Crash(keep)
		p.crash(keep)
		return api.OK, api.OK, true
	default:
		b := "0123456789"[:c.below(6)]
		return d.Write(name, place, []byte(b)), p.write(name, place, b), false
	}
}

// P5.1 to P5.7: long scripts beside a plain list of what each file was behind each unit.
func TestScript(t *testing.T) {
	for seed := range 60 {
		c := chance(seed)
		room := 10 + c.below(60)
		d, model := disk.New(room), &plainDisk{room, map[string]*plainFile{}}
		for i := range 600 {
			used := d.Used()
			got, want, crashed := model.step(d, &c)
			if got != want || files(d) != model.told() {
				t.Fatalf("seed %d, step %d: error %d, %s\nwant error %d, %s", seed, i, got, files(d), want, model.told())
			}
			if d.Used() > max(room, used) && !crashed {
				t.Fatalf("seed %d, step %d: used are %d of %d", seed, i, d.Used(), room)
			}
			if c.below(8) == 0 {
				d = d.Fork()
			}
		}
	}
}
