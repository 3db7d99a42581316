package admin

import (
	"slices"

	"tollgate/api"
	"tollgate/conf"
)

// Ask asks for an operation.
func (d *Desk) Ask(client int, op api.Op) (int, api.Errno) {
	if d == nil {
		return 0, api.ErrNil
	}
	d.clock++
	if client < 1 || client > api.MaxClient {
		return 0, api.ErrArg
	}
	if slices.ContainsFunc(d.waiting, func(o operation) bool { return o.client == client }) {
		return 0, api.ErrBusy
	}
	if op.Look {
		op.Command = api.Command{}
	} else {
		op.Command.Client, op.Command.Seq = client, d.asked[client]+1
		if e := conf.Check(op.Command); e != api.OK {
			return 0, e
		}
		d.asked[client]++
	}
	d.records = append(d.records, copyRecord(api.Record{Op: op, From: d.clock}))
	d.waiting = append(d.waiting, operation{number: len(d.records), client: client})
	return len(d.records), api.OK
}

// Try tries an operation at a node.
func (d *Desk) Try(number, node int) (int, api.Errno) {
	if d == nil {
		return 0, api.ErrNil
	}
	d.clock++
	if number < 1 || number > len(d.records) {
		return 0, api.ErrGone
	}
	at := slices.IndexFunc(d.waiting, func(o operation) bool { return o.number == number })
	if at < 0 {
		return 0, api.ErrKnown
	}
	tried, t := d.submit(d.records[number-1].Op, node)
	switch t.E {
	case api.OK:
		d.waiting[at].tries = append(d.waiting[at].tries, tried)
		d.take(t)
		return 0, api.OK
	case api.ErrLeader:
		return d.cluster.View(node).Leader, api.ErrLeader
	}
	return 0, t.E
}

// submit has the cluster do an operation's step. A tag that was refused is free still: no read waits with it.
func (d *Desk) submit(op api.Op, node int) (try, api.Told) {
	if !op.Look {
		t := d.cluster.Do(api.Step{Kind: api.Submit, Node: node, Command: op.Command})
		return try{node: node, index: t.Index, term: t.Term}, t
	}
	t := d.cluster.Do(api.Step{Kind: api.Ask, Node: node, Tag: d.tag + 1})
	if t.E == api.OK {
		d.tag++
	}
	return try{node: node, tag: d.tag}, t
}

// Do does a step of the cluster.
func (d *Desk) Do(s api.Step) api.Told {
	if d == nil {
		return api.Told{E: api.ErrNil}
	}
	d.clock++
	if s.Kind == api.Submit || s.Kind == api.Ask {
		return api.Told{E: api.ErrArg}
	}
	t := d.cluster.Do(s)
	d.take(t)
	if s.Kind == api.Crash && t.E == api.OK {
		d.forget(s.Node)
	}
	return t
}

// take takes in what a step of the cluster told.
func (d *Desk) take(t api.Told) {
	for _, x := range t.Done {
		d.answer(try{node: t.Node, index: x.Index, term: x.Term}, api.Record{Index: x.Index, Result: x.Result})
	}
	for _, x := range t.Reads {
		d.answer(try{node: t.Node, tag: x.Tag}, api.Record{Index: d.cluster.Applied(t.Node), Config: d.cluster.Config(t.Node)})
	}
	for _, x := range t.Log {
		if x.Index == len(d.log)+1 {
			d.log = append(d.log, copyEntry(x))
		}
	}
}

// answer answers the operations that were tried so; they wait no longer, and their tries are gone with that.
func (d *Desk) answer(tried try, what api.Record) {
	var wait []operation
	for _, o := range d.waiting {
		if !slices.Contains(o.tries, tried) {
			wait = append(wait, o)
			continue
		}
		r := &d.records[o.number-1]
		r.To, r.Index, r.Result, r.Config = d.clock, what.Index, what.Result, what.Config
	}
	d.waiting = wait
}

// forget: a node that fell does anew what it has done, at the same indices and terms; by that nothing is answered.
func (d *Desk) forget(node int) {
	for i, o := range d.waiting {
		d.waiting[i].tries = slices.DeleteFunc(o.tries, func(x try) bool { return x.node == node })
	}
}
