package node_test

import (
	"math"
	"testing"

	"tollgate/api"
	"tollgate/conf"
	"tollgate/disk"
	"tollgate/member"
	"tollgate/snap"
)

// stranger makes messages that no node would send, perhaps; some are right.
type stranger struct {
	*pair
	chance
}

func (s *stranger) near(x int) int { return max(x+s.below(5)-2, 0) }

// termAt is the term at an index, or at the nearest one that there is.
func (s *stranger) termAt(index int) int {
	v := s.node.View()
	index = min(index, v.Last)
	for _, x := range s.node.Entries(index, index) {
		return x.Term
	}
	return v.Base.Term
}

func (s *stranger) anEntry(term, index int) api.Entry {
	switch s.below(8) {
	case 0:
		return data(term, index, []string{"", "none", "\x01\x00\x00\x00\x00\x00\x01p\x00\x00"}[s.below(3)])
	case 1:
		b, _ := member.PutChange(api.Change{Do: api.Do(1 + s.below(4)), Node: 1 + s.below(api.MaxNode)})
		return api.Entry{Kind: api.Turn, Term: term, Index: index, Data: b[:s.below(3)]}
	case 2:
		return noop(term, index)
	}
	b, _ := conf.PutCommand(putPool([]string{"p", "q", "r", "s"}[s.below(4)]))
	return data(term, index, string(b))
}

func (s *stranger) aMessage() api.Msg {
	v := s.node.View()
	m := api.Msg{Kind: api.MsgKind(1 + s.below(7)), From: 1 + s.below(3), To: s.id, Term: s.near(v.Hard.Term), Commit: s.near(v.Last), Hint: s.near(v.Last), Round: s.below(4), Ok: s.oneOf(2)}
	m.Index = s.near([]int{v.Last, v.Last, v.Commit, v.Base.Index}[s.below(4)])
	m.LogTerm = s.termAt(m.Index)
	if s.oneOf(6) {
		m.LogTerm = s.near(m.LogTerm)
	}
	if m.Kind == api.Install {
		return s.anInstall(m)
	}
	if m.Kind == api.Append {
		term := max(m.LogTerm, 1)
		for i := range s.below(api.MaxBatch + 1) {
			if s.oneOf(6) {
				term++
			}
			m.Entries = append(m.Entries, s.anEntry(term, m.Index+1+i))
			m.Term = max(m.Term, term)
		}
	}
	if s.oneOf(15) {
		m.To = 1 + s.below(api.MaxNode)
	}
	return m
}

func (s *stranger) anInstall(m api.Msg) api.Msg {
	kept := snapOf(max(m.Index, 1), max(m.LogTerm, 1), voters(1+s.below(2), 3+s.below(3)))
	for range s.below(3) {
		store, _ := conf.Load(kept.Data)
		store.Do(putPool([]string{"p", "q", "a-long-name-of-a-pool"}[s.below(3)]))
		kept.Data = store.Put()
	}
	if s.oneOf(4) {
		kept.Data = kept.Data[:s.below(len(kept.Data))]
	}
	m.Index, m.LogTerm = kept.Mark.Index, kept.Mark.Term
	m.Term = max(m.Term, m.LogTerm)
	m.Data, _ = snap.Put(kept)
	return m
}

func (s *stranger) step() api.Errno {
	switch s.below(12) {
	case 0, 1, 2:
		return s.tick(s.aDraw()).E
	case 3:
		return s.submit(putPool("p")).E
	case 4:
		return s.change(api.Change{Do: api.Do(s.below(6)), Node: s.below(11)}).E
	case 5:
		return s.read(s.below(5)).E
	}
	return s.take(bytesOf(s.t, s.aMessage()), s.aDraw()).E
}

// wantAsItWas: behind a crash Hard and log are as they were (P12.4). Who is no node may have told entries whose terms fall behind Base: with these no core begins.
func wantAsItWas(t *testing.T, p *pair, e api.Errno, was api.View, log []api.Entry) {
	t.Helper()
	if len(log) > 0 && log[0].Term < was.Base.Term {
		want(t, "terms that fall", e, api.ErrForm)
		return
	}
	wantOK(t, e)
	want(t, "Hard", p.node.View().Hard, was.Hard)
	want(t, "Base", p.node.View().Base, was.Base)
	want(t, "the log", p.node.Entries(0, math.MaxInt), log)
}

// P1, P12.1, P12.2, P12.7: messages that no node would have sent, on disks of any room, and crashes that keep any number of units: step by step as the model says, and with an error the node is as it was.
func TestStrangeScripts(t *testing.T) {
	told := map[api.Errno]int{}
	opened := map[api.Errno]int{}
	for seed := range 120 {
		c := chance(seed)
		room := []int{roomy, 22 + c.below(300), 22 + c.below(1500)}[seed%3]
		m := voters(1, 2, 3)
		m.Voters = m.Voters[:1+c.below(3)]
		s := &stranger{newPair(t, disk.New(room), 1, m), c}
		opened[s.open(s.aDraw())]++
		for range 300 {
			before := inside(s.node)
			e := s.step()
			told[e]++
			if e != api.OK && inside(s.node) != before {
				t.Fatalf("seed %d: error %d, and yet %s\nwas %s", seed, e, inside(s.node), before)
			}
			if !s.oneOf(25) {
				continue
			}
			was, log := s.node.View(), s.node.Entries(0, math.MaxInt)
			s.crash(s.below(40)-2, s.below(40)-2, s.below(40)-2)
			e = s.open(s.aDraw())
			opened[e]++
			if room == roomy {
				wantAsItWas(t, s.pair, e, was, log)
			}
			if e != api.OK {
				break
			}
		}
	}
	t.Logf("steps: %v, openings: %v", told, opened)
	for _, e := range []api.Errno{api.OK, api.ErrArg, api.ErrForm, api.ErrFull, api.ErrLeader} {
		if told[e] < 20 {
			t.Errorf("error %d was told %d times", e, told[e])
		}
	}
}
