package admin_test

import (
	"slices"
	"testing"

	"tollgate/admin"
	"tollgate/api"
	"tollgate/cluster"
	"tollgate/conf"
)

// model is a desk by the chapter's words, one behind the other.
type model struct {
	cluster *cluster.Cluster
	clock   int
	tags    int
	records []api.Record
	clients []int      // by record
	tries   [][][4]int // by record: node, index, term, tag
	log     []api.Entry
}

func (m *model) ask(client int, o api.Op) (int, api.Errno) {
	m.clock++
	if client < 1 || client > api.MaxClient {
		return 0, api.ErrArg
	}
	seq := 1
	for i, r := range m.records {
		if m.clients[i] != client {
			continue
		}
		if r.To == 0 {
			return 0, api.ErrBusy
		}
		if !r.Op.Look {
			seq++
		}
	}
	if o.Look {
		o = api.Op{Look: true}
	} else {
		o.Command.Client, o.Command.Seq = client, seq
		if e := conf.Check(o.Command); e != api.OK {
			return 0, e
		}
	}
	m.records = append(m.records, api.Record{Op: o, From: m.clock})
	m.clients = append(m.clients, client)
	m.tries = append(m.tries, nil)
	return len(m.records), api.OK
}

func (m *model) try(number, node int) (int, api.Errno) {
	m.clock++
	if number < 1 || number > len(m.records) {
		return 0, api.ErrGone
	}
	r := m.records[number-1]
	if r.To != 0 {
		return 0, api.ErrKnown
	}
	s := api.Step{Kind: api.Submit, Node: node, Command: r.Op.Command}
	if r.Op.Look {
		s = api.Step{Kind: api.Ask, Node: node, Tag: m.tags + 1}
	}
	told := m.cluster.Do(s)
	if told.E == api.ErrLeader {
		return m.cluster.View(node).Leader, told.E
	}
	if told.E != api.OK {
		return 0, told.E
	}
	this := [4]int{node, told.Index, told.Term, 0}
	if r.Op.Look {
		m.tags++
		this = [4]int{node, 0, 0, m.tags}
	}
	m.tries[number-1] = append(m.tries[number-1], this)
	m.answers(told)
	return 0, api.OK
}

func (m *model) do(s api.Step) api.Told {
	m.clock++
	if s.Kind == api.Submit || s.Kind == api.Ask {
		return api.Told{E: api.ErrArg}
	}
	told := m.cluster.Do(s)
	m.answers(told)
	if s.Kind == api.Crash && told.E == api.OK {
		for i := range m.tries {
			m.tries[i] = slices.DeleteFunc(m.tries[i], func(x [4]int) bool { return x[0] == s.Node })
		}
	}
	return told
}

func (m *model) answers(told api.Told) {
	for _, d := range told.Done {
		for i := range m.records {
			if r := &m.records[i]; r.To == 0 && slices.Contains(m.tries[i], [4]int{told.Node, d.Index, d.Term, 0}) {
				r.To, r.Index, r.Result = m.clock, d.Index, d.Result
			}
		}
	}
	for _, x := range told.Reads {
		for i := range m.records {
			if r := &m.records[i]; r.To == 0 && slices.Contains(m.tries[i], [4]int{told.Node, 0, 0, x.Tag}) {
				r.To, r.Index, r.Config = m.clock, m.cluster.Applied(told.Node), m.cluster.Config(told.Node)
			}
		}
	}
	for _, x := range told.Log {
		if len(m.log) == 0 && x.Index == 1 || len(m.log) > 0 && x.Index == m.log[len(m.log)-1].Index+1 {
			m.log = append(m.log, x)
		}
	}
}

func (m *model) leader() int {
	leader := 0
	for n := 1; n <= m.cluster.Nodes(); n++ {
		if v := m.cluster.View(n); m.cluster.Up(n) && v.Role == api.Leader && (leader == 0 || v.Hard.Term > m.cluster.View(leader).Hard.Term) {
			leader = n
		}
	}
	return leader
}

// pair is a desk beside its model.
type pair struct {
	*admin.Desk
	t     *testing.T
	model *model
}

func newPair(t *testing.T, nodes, room int) *pair {
	t.Helper()
	c, e := cluster.New(nodes, room)
	wantOK(t, e)
	return &pair{made(t, nodes, room), t, &model{cluster: c}}
}

// What is handed in and what is answered is spoilt behind each call (P3).
func (p *pair) Ask(client int, o api.Op) (int, api.Errno) {
	p.t.Helper()
	number, should := p.model.ask(client, o)
	handed := o
	handed.Command.Targets = spare(o.Command.Targets, api.Target{Addr: "behind"})
	before := shown(handed.Command.Targets[:cap(handed.Command.Targets)])
	n, e := p.Desk.Ask(client, handed)
	if n != number || e != should {
		p.t.Fatalf("Ask(%d, %+v): %d, error %d; want %d, %d", client, o, n, e, number, should)
	}
	if after := shown(handed.Command.Targets[:cap(handed.Command.Targets)]); after != before {
		p.t.Fatalf("%s was handed in; behind the call it is %s", before, after)
	}
	clear(handed.Command.Targets)
	return n, e
}

func (p *pair) Try(number, node int) (int, api.Errno) {
	p.t.Helper()
	leader, should := p.model.try(number, node)
	n, e := p.Desk.Try(number, node)
	if n != leader || e != should {
		p.t.Fatalf("Try(%d, %d): %d, error %d; want %d, %d", number, node, n, e, leader, should)
	}
	return n, e
}

func (p *pair) Do(s api.Step) api.Told {
	p.t.Helper()
	should := p.model.do(s)
	told := p.Desk.Do(s)
	if shown(told) != shown(should) {
		p.t.Fatalf("%+v tells\n%+v\nwant\n%+v", s, told, should)
	}
	spoilTold(told)
	return should
}

// same holds all that can be seen against the model, and Judge has nothing against it (P14.5).
func (p *pair) same() {
	p.t.Helper()
	spoilRecords(p.History())
	spoilEntries(p.Log())
	m := p.model
	want(p.t, "History", p.History(), m.records)
	want(p.t, "Log", p.Log(), m.log)
	want(p.t, "Leader", p.Leader(), m.leader())
	for n := range m.cluster.Nodes() + 2 {
		spoilConfig(p.Config(n))
		want(p.t, "Config", p.Config(n), m.cluster.Config(n))
	}
	if p.t.Failed() {
		p.t.FailNow()
	}
	explained(p.t, p.Desk)
}

// judged is Judge by the chapter's words, one behind the other.
func judged(l []api.Record, log []api.Entry) (int, api.Errno) {
	s := conf.New()
	configs := []api.Config{s.Config()}
	results := []api.Result{{}}
	for i, x := range log {
		if x.Index != i+1 {
			return 0, api.ErrForm
		}
		var r api.Result
		if x.Kind == api.Data {
			r = api.Result{E: api.ErrForm, Version: s.Config().Version}
			if c, e := conf.GetCommand(x.Data); e == api.OK {
				r = s.Do(c)
			}
		}
		results = append(results, r)
		configs = append(configs, s.Config())
	}
	stands := func(c api.Command, index int) bool {
		if index < 1 || log[index-1].Kind != api.Data {
			return false
		}
		got, e := conf.GetCommand(log[index-1].Data)
		return e == api.OK && shown(got) == shown(c)
	}
	counts := func(r api.Record) int {
		for index := 1; index <= len(log) && !r.Op.Look; index++ {
			if stands(r.Op.Command, index) {
				return index
			}
		}
		return r.Index
	}
	fault := func(r api.Record) api.Errno {
		if r.From <= 0 || r.To < r.From || r.Index < 0 || r.Index > len(log) {
			return api.ErrArg
		}
		if r.Op.Look && shown(configs[r.Index]) != shown(r.Config) {
			return api.ErrStale
		}
		if !r.Op.Look && !(stands(r.Op.Command, r.Index) && results[r.Index] == r.Result) {
			return api.ErrStale
		}
		return api.OK
	}
	for i, r := range l {
		if r.To == 0 {
			continue
		}
		if e := fault(r); e != api.OK {
			return i, e
		}
		for k, x := range l {
			if k == i || x.To == 0 || x.To >= r.From || fault(x) != api.OK {
				continue
			}
			both := !r.Op.Look && !x.Op.Look && shown(r.Op.Command) == shown(x.Op.Command)
			if counts(x) > counts(r) || !r.Op.Look && counts(x) == counts(r) && !both {
				return i, api.ErrStale
			}
		}
	}
	return 0, api.OK
}
