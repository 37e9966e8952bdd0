package talk

import (
	"slices"

	"hedgerow/api"
	"hedgerow/number"
	"hedgerow/plan"
	"hedgerow/vec"
)

// scene is where things are done: a net and its bridges' talk, in memory of their own, and how the net's links end as they are now.
type scene struct {
	net       api.Net
	talk      api.Talk
	endsAmong func(links []api.Link) [][]plan.End
	ends      [][]plan.End
}

func newScene(n api.Net, t api.Talk) *scene {
	endsAmong := plan.EndsAmong(n.Bridges)
	return &scene{net: copiedNet(n), talk: copiedTalk(t), endsAmong: endsAmong, ends: endsAmong(n.Links)}
}

// do does d, or says what is wrong with it.
func (s *scene) do(d api.Do) api.Errno {
	switch d.Kind {
	case api.DoTick:
		return s.doTicks(d.N)
	case api.DoUp, api.DoDown, api.DoCost:
		return s.changeLink(d)
	case api.DoPrior:
		return s.changePriority(d)
	}
	return api.ErrKind
}

func (s *scene) doTicks(ticks int) api.Errno {
	if !number.Within(ticks, 0, api.MaxTicks) {
		return api.ErrRange
	}
	for range ticks {
		s.tick()
	}
	return api.OK
}

func (s *scene) changeLink(d api.Do) api.Errno {
	if !number.Within(d.N, 0, len(s.net.Links)-1) {
		return api.ErrNone
	}
	k := &s.net.Links[d.N]
	switch d.Kind {
	case api.DoUp:
		k.Up = true
	case api.DoDown:
		k.Up = false
	case api.DoCost:
		if !number.Within(d.Value, 1, api.MaxStep) {
			return api.ErrRange
		}
		k.Cost = d.Value
	}
	s.ends = s.endsAmong(s.net.Links)
	return api.OK
}

func (s *scene) changePriority(d api.Do) api.Errno {
	switch {
	case !number.Within(d.N, 0, len(s.net.Bridges)-1):
		return api.ErrNone
	case !number.Within(d.Tree, 0, api.MaxTree) || !plan.IsPriority(d.Value):
		return api.ErrRange
	}
	b := &s.net.Bridges[d.N]
	for len(b.Prios) <= d.Tree {
		b.Prios = append(b.Prios, plan.PlainPriority)
	}
	b.Prios[d.Tree] = d.Value
	return api.OK
}

// tick has all bridges hear each other once, on each tree.
func (s *scene) tick() {
	for tree, minds := range s.talk.Minds {
		// What all said is set down ahead of the first one that changes its mind: they all do so at once.
		told := talesOf(minds)
		for i := range minds {
			hear(&minds[i], plan.Ident(s.net.Bridges[i], tree), s.ends[i], plan.Heard(s.ends[i], told))
		}
	}
}

func talesOf(minds []api.Mind) []api.Tale {
	told := make([]api.Tale, len(minds))
	for i, m := range minds {
		told[i] = api.Tale{Vec: m.Vec, Age: m.Age}
	}
	return told
}

// hear has a bridge with identity id make up its mind by what it heard.
func hear(m *api.Mind, id uint64, ends []plan.End, heard []api.Offer) {
	m.Vec, m.Age, m.RootPort = vec.Choose(id, heard)
	m.Roles = plan.Roles(ends, m.Vec, m.RootPort, heard)
	for i, role := range m.Roles {
		m.Calm[i] = calmOf(role, m.Calm[i])
	}
}

// calmOf is for how many ticks a port has been root or designated, if it was so for so many ahead of this one.
func calmOf(role, calm int) int {
	if role != api.RoleRoot && role != api.RoleDesignated {
		return 0
	}
	// Held against Wait ahead of the sum: a talk that is handed in may have any number, and the greatest would wrap round.
	return min(calm, api.Wait-1) + 1
}

func copiedNet(n api.Net) api.Net {
	n.Bridges, n.Links = slices.Clone(n.Bridges), slices.Clone(n.Links)
	for i := range n.Bridges {
		b := &n.Bridges[i]
		b.Prios, b.Region.Ways = slices.Clone(b.Prios), slices.Clone(b.Region.Ways)
	}
	return n
}

func copiedTalk(t api.Talk) api.Talk {
	t.Minds = slices.Clone(t.Minds)
	for tree := range t.Minds {
		t.Minds[tree] = slices.Clone(t.Minds[tree])
		for i := range t.Minds[tree] {
			m := &t.Minds[tree][i]
			m.Ports, m.Roles, m.Calm = slices.Clone(m.Ports), slices.Clone(m.Roles), slices.Clone(m.Calm)
		}
	}
	return t
}
