package admin

import (
	"cmp"
	"math"
	"slices"

	"tollgate/api"
	"tollgate/conf"
)

// fault is the panic by which a history is given up; a type of its own, so that no other panic is taken for it.
type fault struct {
	place int
	errno api.Errno
}

func giveUp(place int, e api.Errno) { panic(fault{place, e}) }

// caught looks, and answers where and why the looking was given up.
func caught(look func()) (place int, e api.Errno) {
	defer func() {
		switch f := recover().(type) {
		case nil:
		case fault:
			place, e = f.place, f.errno
		default: // hiding a mistake of the program's own would make it look like a good history
			panic(f)
		}
	}()
	look()
	return 0, api.OK
}

// Judge looks whether a history can be explained by a log.
func Judge(l []api.Record, log ...api.Entry) (int, api.Errno) {
	return caught(func() {
		c := follow(log, l)
		all := c.answers(l)
		for place, r := range l {
			if r.To == 0 {
				continue
			}
			c.explain(place, r)
			if greatest(all, r.From) > c.rank(r) {
				giveUp(place, api.ErrStale)
			}
		}
	})
}

// course is what a log comes to, by its indices from 0 on, at which nothing is done.
type course struct {
	commands []string           // their bytes; none where there is no command
	results  []api.Result       // of commands
	first    map[string]int     // by a command's bytes: where it stands first
	configs  map[int]api.Config // those alone that are looked at
}

// follow does a log.
func follow(log []api.Entry, l []api.Record) *course {
	c := &course{commands: []string{""}, results: []api.Result{{}}, first: map[string]int{}, configs: map[int]api.Config{}}
	for _, r := range l {
		if r.Op.Look {
			c.configs[r.Index] = api.Config{}
		}
	}
	s := conf.New()
	for i, x := range log {
		if x.Index != i+1 {
			giveUp(0, api.ErrForm)
		}
		c.do(s, x)
	}
	return c
}

// do does an entry. Of one that is no command nothing is asked, so what it comes to is not told.
func (c *course) do(s *conf.Store, x api.Entry) {
	var bytes string
	var result api.Result
	if x.Kind == api.Data {
		if command, e := conf.GetCommand(x.Data); e == api.OK {
			// A command has one row of bytes alone.
			bytes, result = string(x.Data), s.Do(command)
			if _, known := c.first[bytes]; !known {
				c.first[bytes] = x.Index
			}
		}
	}
	c.commands = append(c.commands, bytes)
	c.results = append(c.results, result)
	if _, asked := c.configs[x.Index]; asked {
		c.configs[x.Index] = s.Config()
	}
}

// bytesOf are a command's; none of one that may not be, which stands in no log.
func bytesOf(c api.Command) string {
	b, _ := conf.PutCommand(c)
	return string(b)
}

// explain gives a record up that is none, or that the log does not say.
func (c *course) explain(place int, r api.Record) {
	if r.From <= 0 || r.From > r.To || r.Index < 0 || r.Index >= len(c.commands) {
		giveUp(place, api.ErrArg)
	}
	if r.Op.Look && !sameConfig(c.configs[r.Index], r.Config) {
		giveUp(place, api.ErrStale)
	}
	if !r.Op.Look && !c.came(r) {
		giveUp(place, api.ErrStale)
	}
}

// came: did a command come to its result at its index?
func (c *course) came(r api.Record) bool {
	bytes := bytesOf(r.Op.Command)
	return bytes != "" && c.commands[r.Index] == bytes && c.results[r.Index] == r.Result
}

// rank is where a record that is explained counts: a Look behind the entry of its index, and ahead of the next one.
func (c *course) rank(r api.Record) int {
	if r.Op.Look {
		return 2*r.Index + 1
	}
	return 2 * c.first[bytesOf(r.Op.Command)]
}

// answer is when a record was answered, and where it counts.
type answer struct{ to, rank int }

// answers are those of the records that are explained, by their times, each with the greatest rank up to there. (One that is not answered is not explained: no From stands between 0 and its To.)
func (c *course) answers(l []api.Record) []answer {
	var all []answer
	for place, r := range l {
		if _, e := caught(func() { c.explain(place, r) }); e == api.OK {
			all = append(all, answer{r.To, c.rank(r)})
		}
	}
	slices.SortFunc(all, func(a, b answer) int { return cmp.Compare(a.to, b.to) })
	for i := 1; i < len(all); i++ {
		all[i].rank = max(all[i].rank, all[i-1].rank)
	}
	return all
}

// greatest is the greatest rank of what was answered ahead of a time; 0, which is below all, if nothing was.
func greatest(all []answer, time int) int {
	ahead, _ := slices.BinarySearchFunc(all, time, func(a answer, time int) int { return cmp.Compare(a.to, time) })
	if ahead == 0 {
		return 0
	}
	return all[ahead-1].rank
}

func sameConfig(a, b api.Config) bool {
	return a.Version == b.Version && slices.Equal(a.Routes, b.Routes) && slices.EqualFunc(a.Pools, b.Pools, samePool)
}

func samePool(a, b api.Pool) bool {
	return a.Name == b.Name && slices.EqualFunc(a.Targets, b.Targets, sameTarget)
}

// sameTarget looks at a weight's bits: -0 is none of a configuration's, though it is equal to 0.
func sameTarget(a, b api.Target) bool {
	return a.Addr == b.Addr && math.Float64bits(a.Weight) == math.Float64bits(b.Weight)
}
