package admin

import (
	"bytes"
	"slices"

	"tollgate/api"
)

func copyEntry(x api.Entry) api.Entry {
	x.Data = bytes.Clone(x.Data)
	return x
}

func copyCommand(c api.Command) api.Command {
	c.Targets = slices.Clone(c.Targets)
	return c
}

func copyConfig(c api.Config) api.Config {
	c.Routes = slices.Clone(c.Routes)
	c.Pools = slices.Clone(c.Pools)
	for i, p := range c.Pools {
		c.Pools[i].Targets = slices.Clone(p.Targets)
	}
	return c
}

func copyRecord(r api.Record) api.Record {
	r.Op.Command = copyCommand(r.Op.Command)
	r.Config = copyConfig(r.Config)
	return r
}
