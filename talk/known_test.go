package talk

import (
	"math"
	"reflect"
	"slices"
	"testing"

	"hedgerow/api"
)

// with is something, changed.
func with[T any](x T, change func(*T)) T {
	change(&x)
	return x
}

func someRegion() api.Region {
	return api.Region{Name: "hedge", Revision: 7, Ways: []api.Way{{VID: 5, Tree: 2}, {VID: 9, Tree: 1}}}
}

func bridge(addr uint64, prios ...int) api.Bridge {
	return api.Bridge{Addr: addr, Prios: prios, Region: someRegion()}
}

func link(a, portA, b, portB, cost int) api.Link {
	return api.Link{A: a, PortA: portA, B: b, PortB: portB, Cost: cost, Up: true}
}

// plain is the identity of a bridge without a priority.
func plain(addr uint64) uint64 {
	return 0x8000_0000_0000_0000 + addr
}

func tick(n int) api.Do { return api.Do{Kind: api.DoTick, N: n} }

func up(n int) api.Do { return api.Do{Kind: api.DoUp, N: n} }

func down(n int) api.Do { return api.Do{Kind: api.DoDown, N: n} }

func cost(n, value int) api.Do { return api.Do{Kind: api.DoCost, N: n, Value: value} }

func prior(n, tree, value int) api.Do {
	return api.Do{Kind: api.DoPrior, N: n, Tree: tree, Value: value}
}

// two is the document's two bridges.
func two() api.Net {
	return api.Net{Bridges: []api.Bridge{bridge(8), bridge(9)}, Links: []api.Link{link(0, 4, 1, 3, 6)}}
}

// ring is four bridges, each with two neighbours, and one link across; nothing in it is at an end of its range.
func ring() api.Net {
	return api.Net{
		Bridges: []api.Bridge{bridge(40, 32768, 8192), bridge(30, 4096), bridge(20, 32768, 4096, 61440), bridge(50)},
		Links:   []api.Link{link(0, 2, 1, 3, 10), link(1, 5, 2, 4, 20), link(2, 7, 3, 6, 30), link(3, 9, 0, 8, 40), link(1, 2, 3, 2, 25)},
	}
}

// chain is so many bridges in a row, and the less address at one of its ends.
func chain(n int, rises bool) api.Net {
	var c api.Net
	for i := range n {
		addr := uint64(100 - i)
		if rises {
			addr = uint64(100 + i)
		}
		c.Bridges = append(c.Bridges, bridge(addr))
		if i > 0 {
			c.Links = append(c.Links, link(i-1, 1, i, 2, 10*i))
		}
	}
	return c
}

// full has as much of all as may be, and numbers at the ends of their ranges.
func full() api.Net {
	var n api.Net
	for i := range 12 {
		n.Bridges = append(n.Bridges, bridge(api.MaxAddr-uint64(i), slices.Repeat([]int{61440}, 16)...))
	}
	for i := range 40 {
		a := i % 12
		n.Links = append(n.Links, link(a, 30-i/12, (a+1+i/12)%12, 1+i/12, []int{1, api.MaxStep}[i%2]))
	}
	return n
}

// goodNets are nets with which nothing is wrong.
func goodNets() map[string]api.Net {
	return map[string]api.Net{
		"nothing":    {},
		"one bridge": {Bridges: []api.Bridge{bridge(0)}},
		"two":        two(),
		"ring":       ring(),
		"chain":      chain(12, true),
		"full":       full(),
		"two links between two bridges": {
			Bridges: []api.Bridge{bridge(1), bridge(2)},
			Links:   []api.Link{link(0, 1, 1, 1, 5), link(1, 2, 0, 2, 5)},
		},
		"unlike regions": {
			Bridges: []api.Bridge{bridge(1), with(bridge(2), func(b *api.Bridge) { b.Region.Name = "x" }), bridge(3)},
			Links:   []api.Link{link(0, 1, 1, 1, 5), link(1, 2, 2, 2, 5)},
		},
		"down": {
			Bridges: []api.Bridge{bridge(1), bridge(2)},
			Links:   []api.Link{{A: 0, PortA: 1, B: 1, PortB: 1, Cost: 5}},
		},
	}
}

// knownIdent is what F2 says.
func knownIdent(b api.Bridge, tree int) uint64 {
	if tree < len(b.Prios) {
		return uint64(b.Prios[tree])*(1<<48) + b.Addr
	}
	return plain(b.Addr)
}

// knownLive is what F2 says of a link; regions are held against each other as they are written, without a digest.
func knownLive(n api.Net, k api.Link) bool {
	a, b := n.Bridges[k.A].Region, n.Bridges[k.B].Region
	return k.Up && a.Name == b.Name && a.Revision == b.Revision && slices.Equal(a.Ways, b.Ways)
}

// knownLinks are those that end at bridge i, each with that end as A, as the ports rise.
func knownLinks(n api.Net, i int) []api.Link {
	var l []api.Link
	for port := 1; port <= 30; port++ {
		for _, k := range n.Links {
			if k.B == i && k.PortB == port {
				k = api.Link{A: k.B, PortA: k.PortB, B: k.A, PortB: k.PortA, Cost: k.Cost, Up: k.Up}
			}
			if k.A == i && k.PortA == port {
				l = append(l, k)
			}
		}
	}
	return l
}

// knownStart is what G1 says.
func knownStart(n api.Net, trees int) api.Talk {
	var t api.Talk
	for tree := range trees {
		var minds []api.Mind
		for i, b := range n.Bridges {
			id := knownIdent(b, tree)
			m := api.Mind{Vec: api.Vec{Root: id, Bridge: id}, RootPort: -1}
			for _, k := range knownLinks(n, i) {
				m.Ports, m.Roles, m.Calm = append(m.Ports, k.PortA), append(m.Roles, 0), append(m.Calm, 0)
			}
			minds = append(minds, m)
		}
		t.Minds = append(t.Minds, minds)
	}
	return t
}

// knownTick is what G2 says, all of it in new memory.
func knownTick(n api.Net, t api.Talk) api.Talk {
	var next api.Talk
	for tree, minds := range t.Minds {
		var l []api.Mind
		for i := range minds {
			l = append(l, knownMind(n, tree, i, minds))
		}
		next.Minds = append(next.Minds, l)
	}
	return next
}

// knownMind is what becomes of bridge i: all that it hears is put in rows, of which the least one counts.
func knownMind(n api.Net, tree, i int, was []api.Mind) api.Mind {
	id := knownIdent(n.Bridges[i], tree)
	m := api.Mind{Vec: api.Vec{Root: id, Bridge: id}, RootPort: -1}
	links := knownLinks(n, i)
	var least []uint64
	for _, k := range links {
		o := was[k.B]
		row := []uint64{o.Vec.Root, uint64(o.Vec.Cost + k.Cost), o.Vec.Bridge, uint64(k.PortB), uint64(k.PortA)}
		may := knownLive(n, k) && o.Age >= 0 && o.Age < 20 && o.Vec.Root < id && o.Vec.Cost >= 0 && o.Vec.Cost <= 1000000000-k.Cost
		if may && (least == nil || slices.Compare(row, least) < 0) {
			least = row
			m.Vec.Root, m.Vec.Cost, m.Age, m.RootPort = o.Vec.Root, o.Vec.Cost+k.Cost, o.Age+1, k.PortA
		}
	}
	for at, k := range links {
		role, calm := knownRole(n, k, m, was[k.B]), 0
		if role == 1 || role == 2 {
			calm = 50
			if old := was[i].Calm[at]; old < 50 {
				calm = old + 1
			}
		}
		m.Ports, m.Roles, m.Calm = append(m.Ports, k.PortA), append(m.Roles, role), append(m.Calm, calm)
	}
	return m
}

// knownRole is the role of a link's port A at a bridge of mind m, when the bridge at port B was of mind other.
func knownRole(n api.Net, k api.Link, m, other api.Mind) int {
	cost := func(n int) uint64 { return uint64(n) ^ 1<<63 }
	offered := []uint64{other.Vec.Root, cost(other.Vec.Cost), other.Vec.Bridge, uint64(k.PortB)}
	said := []uint64{m.Vec.Root, cost(m.Vec.Cost), m.Vec.Bridge, uint64(k.PortA)}
	switch {
	case !knownLive(n, k):
		return 0
	case k.PortA == m.RootPort:
		return 1
	case other.Age >= 0 && other.Age <= 20 && slices.Compare(offered, said) < 0:
		return 3
	}
	return 2
}

// knownOn is what G3 says of a good net, and a talk that goes with it.
func knownOn(n api.Net, t api.Talk, l []api.Do) (api.Net, api.Talk, api.Fault) {
	n, t = copyOf(n), copyOf(t)
	if len(l) > 30 {
		return api.Net{}, api.Talk{}, api.Fault{Err: api.ErrMany}
	}
	for i, d := range l {
		if err := knownWrongDo(n, d); err != api.OK {
			return api.Net{}, api.Talk{}, api.Fault{Err: err, At: i}
		}
		switch d.Kind {
		case 1:
			for range d.N {
				t = knownTick(n, t)
			}
		case 2, 3:
			n.Links[d.N].Up = d.Kind == 2
		case 4:
			n.Links[d.N].Cost = d.Value
		case 5:
			prios := append(n.Bridges[d.N].Prios, slices.Repeat([]int{32768}, 16)...)
			prios[d.Tree] = d.Value
			n.Bridges[d.N].Prios = prios[:max(d.Tree+1, len(n.Bridges[d.N].Prios))]
		}
	}
	return n, t, api.Fault{}
}

func knownWrongDo(n api.Net, d api.Do) api.Errno {
	out := func(x, least, most int) bool { return x < least || x > most }
	if d.Kind < 1 || d.Kind > 5 {
		return api.ErrKind
	}
	there := map[int]int{1: math.MaxInt, 5: len(n.Bridges)}[d.Kind]
	if there == 0 && d.Kind != 5 {
		there = len(n.Links)
	}
	switch {
	case d.Kind == 1 && out(d.N, 0, 200):
		return api.ErrRange
	case d.Kind != 1 && out(d.N, 0, there-1):
		return api.ErrNone
	case d.Kind == 4 && out(d.Value, 1, 200000):
		return api.ErrRange
	case d.Kind == 5 && (out(d.Tree, 0, 15) || out(d.Value, 0, 61440) || d.Value&4095 != 0):
		return api.ErrRange
	}
	return api.OK
}

// knownOpens is what G4 says, with all that is found on the way there.
func knownOpens(t api.Talk, tree, bridge, port int) bool {
	for i, minds := range t.Minds {
		for j, m := range minds {
			for at, p := range m.Ports {
				if i == tree && j == bridge && p == port {
					return at < len(m.Calm) && m.Calm[at] >= 50
				}
			}
		}
	}
	return false
}

// pick is a row of numbers that hang on seed alone.
func pick(seed uint64) func(n int) int {
	return func(n int) int {
		seed = seed*6364136223846793005 + 1442695040888963407
		return int((seed >> 33) % uint64(n))
	}
}

// someNet is a good net: its costs are often the same, some of its links are down, and some of its regions unlike.
func someNet(next func(int) int) api.Net {
	var n api.Net
	for i := range 1 + next(12) {
		b := bridge(uint64(i*7%12 + 1))
		for range next(4) {
			b.Prios = append(b.Prios, 4096*(7+next(3)))
		}
		if next(12) == 0 {
			b.Region.Revision++
		}
		n.Bridges = append(n.Bridges, b)
	}
	taken := map[[2]int]int{}
	for range next(60) {
		k := link(next(len(n.Bridges)), 1+next(30), next(len(n.Bridges)), 1+next(30), 1+next(4))
		k.Up = next(8) > 0
		a, b := [2]int{k.A, k.PortA}, [2]int{k.B, k.PortB}
		if k.A != k.B && taken[a]+taken[b] == 0 && len(n.Links) < 40 {
			taken[a], taken[b] = 1, 1
			n.Links = append(n.Links, k)
		}
	}
	return n
}

// someChange is something that may be done with n, but no tick.
func someChange(n api.Net, next func(int) int) api.Do {
	if len(n.Links) == 0 || next(4) == 0 {
		return prior(next(len(n.Bridges)), next(5), 4096*(6+next(4)))
	}
	return api.Do{Kind: 2 + next(3), N: next(len(n.Links)), Value: 1 + next(9)}
}

// someDos are good things to do with n, or now and then one that is none.
func someDos(n api.Net, next func(int) int, odd bool) []api.Do {
	var l []api.Do
	for range next(12) {
		d := someChange(n, next)
		if next(2) == 0 {
			d = tick(next(9))
		}
		if odd && next(20) == 0 {
			some := []int{-1, 0, 1, 5, 12, 16, 40, 61440, 200001, math.MinInt, math.MaxInt}
			field := []*int{&d.Kind, &d.N, &d.Tree, &d.Value}[next(4)]
			*field = some[next(len(some))]
		}
		l = append(l, d)
	}
	return l
}

// haunt puts numbers into a talk that may be ghosts, or such as no talk has.
func haunt(t api.Talk, next func(int) int) {
	odd := []int{math.MinInt, -1, 0, 1, 18, 19, 20, 21, 49, 50, 51, 1000000000 - 2, 1000000000, math.MaxInt}
	for _, minds := range t.Minds {
		for i := range minds {
			m := &minds[i]
			switch next(6) {
			case 0:
				m.Vec.Root = uint64(next(9))
			case 1:
				m.Vec.Cost = odd[next(len(odd))]
			case 2:
				m.Age = odd[next(len(odd))]
			case 3:
				m.Vec.Port, m.RootPort = odd[next(len(odd))], odd[next(len(odd))]
			case 4:
				m.Vec.Bridge = uint64(next(9))
			}
			for at := range m.Ports {
				m.Roles[at], m.Calm[at] = odd[next(len(odd))], odd[next(len(odd))]
			}
		}
	}
}

// deep is a copy in memory of its own; each list has its spare room, too, if all is so.
func deep(v reflect.Value, all bool) reflect.Value {
	switch v.Kind() {
	case reflect.Slice:
		if all {
			v = v.Slice(0, v.Cap())
		}
		c := reflect.MakeSlice(v.Type(), v.Len(), v.Len())
		for i := range v.Len() {
			c.Index(i).Set(deep(v.Index(i), all))
		}
		return c
	case reflect.Struct:
		c := reflect.New(v.Type()).Elem()
		for i := range v.NumField() {
			c.Field(i).Set(deep(v.Field(i), all))
		}
		return c
	}
	return v
}

// copyOf is x in memory of its own: so nil lists become empty, and what is the same is DeepEqual.
func copyOf[T any](x T) T {
	return deep(reflect.ValueOf(x), false).Interface().(T)
}

// roomy is x with its spare room shown, in memory of its own.
func roomy[T any](x T) T {
	return deep(reflect.ValueOf(x), true).Interface().(T)
}

func same[T any](a, b T) bool {
	return reflect.DeepEqual(copyOf(a), copyOf(b))
}

func wantTalk(t *testing.T, what string, got, want api.Talk) {
	t.Helper()
	if !same(got, want) {
		t.Errorf("%s:\n%+v comes, not\n%+v", what, got, want)
	}
}

func wantNet(t *testing.T, what string, got, want api.Net) {
	t.Helper()
	if !same(got, want) {
		t.Errorf("%s:\n%+v comes, not\n%+v", what, got, want)
	}
}

// wantOn: what comes of a good net and a talk that goes with it is as it is reckoned.
func wantOn(t *testing.T, what string, n api.Net, talk api.Talk, l []api.Do) {
	t.Helper()
	wantN, wantT, wantF := knownOn(n, talk, l)
	gotN, gotT, gotF := On(n, talk, l)
	if gotF != wantF {
		t.Errorf("%s: %v comes, not %v, of %v", what, gotF, wantF, l)
	}
	wantNet(t, what, gotN, wantN)
	wantTalk(t, what, gotT, wantT)
}

// wantFault: On says that, with nothing beside it.
func wantFault(t *testing.T, what string, n api.Net, talk api.Talk, l []api.Do, err api.Errno, at int) {
	t.Helper()
	gotN, gotT, f := On(n, talk, l)
	if want := (api.Fault{Err: err, At: at}); f != want {
		t.Errorf("%s: %v comes, not %v", what, f, want)
	}
	if gotN.Bridges != nil || gotN.Links != nil || gotT.Minds != nil {
		t.Errorf("%s: %v and %v stand beside it", what, gotN, gotT)
	}
}

// mustStart is the start of a good net.
func mustStart(t *testing.T, n api.Net, trees int) api.Talk {
	t.Helper()
	talk, f := Start(n, trees)
	if f != (api.Fault{}) {
		t.Fatalf("%v comes of a good net", f)
	}
	return talk
}

// mustPlay is what comes of good things that are done with a good net.
func mustPlay(t *testing.T, n api.Net, trees int, l ...api.Do) (api.Net, api.Talk) {
	t.Helper()
	m, talk, f := Play(n, trees, l)
	if f != (api.Fault{}) {
		t.Fatalf("%v comes of good things", f)
	}
	return m, talk
}
