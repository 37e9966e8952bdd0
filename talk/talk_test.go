package talk

import (
	"cmp"
	"math"
	"reflect"
	"runtime"
	"slices"
	"sync"
	"testing"

	"hedgerow/api"
	"hedgerow/plan"
)

const (
	none       = api.RoleNone
	root       = api.RoleRoot
	designated = api.RoleDesignated
	blocked    = api.RoleBlocked
)

// head is the mind of a bridge that takes itself for the root.
func head(id uint64, ports, roles, calm []int) api.Mind {
	return mind(id, 0, id, 0, -1, ports, roles, calm)
}

func mind(root uint64, cost int, id uint64, age, rootPort int, ports, roles, calm []int) api.Mind {
	return api.Mind{Vec: api.Vec{Root: root, Cost: cost, Bridge: id}, Age: age, RootPort: rootPort, Ports: ports, Roles: roles, Calm: calm}
}

// wrongNets are nets with which something is wrong, and what.
func wrongNets() map[string]struct {
	net   api.Net
	fault api.Fault
} {
	type row = struct {
		net   api.Net
		fault api.Fault
	}
	return map[string]row{
		"13 bridges":    {api.Net{Bridges: make([]api.Bridge, 13)}, api.Fault{Err: api.ErrMany}},
		"an address":    {with(ring(), func(n *api.Net) { n.Bridges[2].Addr = 1 << 48 }), api.Fault{Err: api.ErrRange, At: 2}},
		"a twin":        {with(ring(), func(n *api.Net) { n.Bridges[3].Addr = 40 }), api.Fault{Err: api.ErrName, At: 3}},
		"a region":      {with(ring(), func(n *api.Net) { n.Bridges[1].Region.Name = "" }), api.Fault{Err: api.ErrName, At: 1}},
		"17 priorities": {with(ring(), func(n *api.Net) { n.Bridges[1].Prios = make([]int, 17) }), api.Fault{Err: api.ErrMany, At: 1}},
		"no bridge":     {with(ring(), func(n *api.Net) { n.Links[4].B = 4 }), api.Fault{Err: api.ErrNone, At: 4}},
		"one bridge":    {with(ring(), func(n *api.Net) { n.Links[4].B = 1 }), api.Fault{Err: api.ErrFit, At: 4}},
		"a cost":        {with(ring(), func(n *api.Net) { n.Links[2].Cost = 0 }), api.Fault{Err: api.ErrRange, At: 2}},
		"an end":        {with(ring(), func(n *api.Net) { n.Links[3].PortA = 6 }), api.Fault{Err: api.ErrName, At: 3}},
	}
}

// G1: by trees, then by bridges; on each tree the identities of that tree; ports rise, whether their links are live or not.
func TestStart(t *testing.T) {
	n := ring()
	n.Links[0].Up = false
	n.Bridges[3].Region.Revision = 8
	ports := [][]int{{2, 8}, {2, 3, 5}, {4, 7}, {2, 6, 9}}
	ids := [][]uint64{
		{plain(40), 4096<<48 + 30, plain(20), plain(50)},
		{8192<<48 + 40, plain(30), 4096<<48 + 20, plain(50)},
		{plain(40), plain(30), 61440<<48 + 20, plain(50)},
		{plain(40), plain(30), plain(20), plain(50)},
	}
	for trees := 1; trees <= 4; trees++ {
		var want api.Talk
		for tree := range trees {
			want.Minds = append(want.Minds, nil)
			for i, l := range ports {
				noughts := make([]int, len(l))
				want.Minds[tree] = append(want.Minds[tree], head(ids[tree][i], l, noughts, noughts))
			}
		}
		wantTalk(t, "ring", mustStart(t, n, trees), want)
	}
}

// G1: nets of all kinds, and Play and On with nothing to do are there, too.
func TestStartOfMany(t *testing.T) {
	nets := goodNets()
	next := pick(1)
	for i := range 100 {
		nets[string(rune('a'+i))] = someNet(next)
	}
	for what, n := range nets {
		for trees := 1; trees <= 4; trees++ {
			want := knownStart(n, trees)
			wantTalk(t, what, mustStart(t, n, trees), want)
			m, talk := mustPlay(t, n, trees)
			wantTalk(t, what, talk, want)
			wantNet(t, what, m, n)
			wantOn(t, what, n, want, nil)
		}
	}
}

// G1, G3, Z4: what is wrong with the net, then with the trees, then with what is done; nothing stands beside a fault.
func TestStartFaults(t *testing.T) {
	want := func(what string, n api.Net, trees int, l []api.Do, f api.Fault) {
		t.Helper()
		if talk, got := Start(n, trees); got != f || talk.Minds != nil {
			t.Errorf("%s, %d trees: start: %v and %v come, not %v", what, trees, talk, got, f)
		}
		if m, talk, got := Play(n, trees, l); got != f || talk.Minds != nil || m.Bridges != nil || m.Links != nil {
			t.Errorf("%s, %d trees: play: %v, %v and %v come, not %v", what, trees, m, talk, got, f)
		}
	}
	for what, n := range goodNets() {
		for _, trees := range []int{-1, 0, 5, 16, math.MinInt, math.MaxInt} {
			want(what, n, trees, nil, api.Fault{Err: api.ErrRange})
			want(what, n, trees, make([]api.Do, 31), api.Fault{Err: api.ErrRange})
		}
	}
	for what, c := range wrongNets() {
		for _, trees := range []int{1, 4, 0, 5} {
			want(what, c.net, trees, nil, c.fault)
			want(what, c.net, trees, make([]api.Do, 31), c.fault)
		}
	}
}

// G2: the document's two, tick by tick, reckoned by hand.
func TestTwoTickByTick(t *testing.T) {
	n := two()
	for ticks := 1; ticks <= 3; ticks++ {
		_, talk := mustPlay(t, n, 1, tick(ticks))
		wantTalk(t, "two", talk, api.Talk{Minds: [][]api.Mind{{
			head(plain(8), []int{4}, []int{designated}, []int{ticks}),
			mind(plain(8), 6, plain(9), 1, 3, []int{3}, []int{root}, []int{ticks}),
		}}})
	}
}

// G2: three in a row, tick by tick, reckoned by hand: what is said goes one link a tick, whichever way the bridges are numbered, and a bridge hears the cost that was.
func TestThreeTickByTick(t *testing.T) {
	n := chain(3, true)
	_, talk := mustPlay(t, n, 1, tick(1))
	first, next, last := plain(100), plain(101), plain(102)
	wantTalk(t, "one tick", talk, api.Talk{Minds: [][]api.Mind{{
		head(first, []int{1}, []int{designated}, []int{1}),
		mind(first, 10, next, 1, 2, []int{1, 2}, []int{designated, root}, []int{1, 1}),
		mind(next, 20, last, 1, 2, []int{2}, []int{root}, []int{1}),
	}}})
	_, talk = mustPlay(t, n, 1, tick(2))
	wantTalk(t, "two ticks", talk, api.Talk{Minds: [][]api.Mind{{
		head(first, []int{1}, []int{designated}, []int{2}),
		mind(first, 10, next, 1, 2, []int{1, 2}, []int{designated, root}, []int{2, 2}),
		mind(first, 30, last, 2, 2, []int{2}, []int{root}, []int{2}),
	}}})
	n = chain(3, false)
	first, next, last = plain(98), plain(99), plain(100)
	_, talk = mustPlay(t, n, 1, tick(1))
	wantTalk(t, "one tick, falling", talk, api.Talk{Minds: [][]api.Mind{{
		mind(next, 10, last, 1, 1, []int{1}, []int{root}, []int{1}),
		mind(first, 20, next, 1, 1, []int{1, 2}, []int{root, designated}, []int{1, 1}),
		head(first, []int{2}, []int{designated}, []int{1}),
	}}})
	_, talk = mustPlay(t, n, 1, tick(2))
	wantTalk(t, "two ticks, falling", talk, api.Talk{Minds: [][]api.Mind{{
		mind(first, 30, last, 2, 1, []int{1}, []int{root}, []int{2}),
		mind(first, 20, next, 1, 1, []int{1, 2}, []int{root, designated}, []int{2, 2}),
		head(first, []int{2}, []int{designated}, []int{2}),
	}}})
}

// G2: a triangle, reckoned by hand: the port that is blocked at last is calm for the one tick ahead of that, and the others go on up to Wait.
func TestTriangleTickByTick(t *testing.T) {
	n := api.Net{
		Bridges: []api.Bridge{bridge(1), bridge(2), bridge(3)},
		Links:   []api.Link{link(0, 1, 1, 1, 10), link(1, 2, 2, 1, 10), link(2, 2, 0, 2, 10)},
	}
	a, b, c := plain(1), plain(2), plain(3)
	for _, row := range []struct{ ticks, calm, lastRole, lastCalm int }{
		{1, 1, designated, 1}, {2, 2, blocked, 0}, {3, 3, blocked, 0}, {49, 49, blocked, 0}, {50, 50, blocked, 0}, {51, 50, blocked, 0}, {200, 50, blocked, 0},
	} {
		_, talk := mustPlay(t, n, 1, tick(row.ticks))
		wantTalk(t, "triangle", talk, api.Talk{Minds: [][]api.Mind{{
			head(a, []int{1, 2}, []int{designated, designated}, []int{row.calm, row.calm}),
			mind(a, 10, b, 1, 1, []int{1, 2}, []int{root, designated}, []int{row.calm, row.calm}),
			mind(a, 10, c, 1, 2, []int{1, 2}, []int{row.lastRole, root}, []int{row.lastCalm, row.calm}),
		}}})
	}
}

// G2: each bridge is one tick older than the one that it heard, as far as a net goes.
func TestAges(t *testing.T) {
	for _, rises := range []bool{true, false} {
		_, talk := mustPlay(t, chain(12, rises), 2, tick(11))
		for tree, minds := range talk.Minds {
			for i, m := range minds {
				want := i
				if !rises {
					want = 11 - i
				}
				if m.Age != want || m.Vec.Root != minds[0].Vec.Root {
					t.Errorf("tree %d, bridge %d: %+v comes", tree, i, m)
				}
			}
		}
	}
}

// G2: on each tree its own identities count, and what is done to one is not seen on another.
func TestTreesAreApart(t *testing.T) {
	_, talk := mustPlay(t, two(), 4, prior(1, 1, 4096), prior(0, 3, 61440), tick(api.Settle))
	for tree, want := range []int{0, 1, 0, 1} {
		for i, m := range talk.Minds[tree] {
			if (m.RootPort < 0) != (i == want) {
				t.Errorf("tree %d, bridge %d: %+v comes", tree, i, m)
			}
		}
	}
}

// G2: over a link that is not live nothing is heard; its ports have no role, and are not calm.
func TestDeadLinks(t *testing.T) {
	for what, change := range map[string]func(*api.Net){
		"down":           func(n *api.Net) { n.Links[0].Up = false },
		"other name":     func(n *api.Net) { n.Bridges[0].Region.Name = "Hedge" },
		"other revision": func(n *api.Net) { n.Bridges[1].Region.Revision = 8 },
		"other tree":     func(n *api.Net) { n.Bridges[1].Region.Ways[1].Tree = 3 },
	} {
		n := two()
		change(&n)
		talk := mustStart(t, n, 1)
		talk.Minds[0][0].Calm[0], talk.Minds[0][1].Calm[0] = 50, 7
		_, talk, _ = On(n, talk, []api.Do{tick(1)})
		wantTalk(t, what, talk, api.Talk{Minds: [][]api.Mind{{
			head(plain(8), []int{4}, []int{none}, []int{0}),
			head(plain(9), []int{3}, []int{none}, []int{0}),
		}}})
	}
}

// G2: one more than it was, Wait at most, whatever it was.
func TestCalm(t *testing.T) {
	n := two()
	for was, want := range map[int]int{
		0: 1, 1: 2, 48: 49, 49: 50, 50: 50, 51: 50, 1000: 50, math.MaxInt: 50, math.MaxInt - 1: 50,
		-1: 0, -5: -4, math.MinInt: math.MinInt + 1,
	} {
		talk := mustStart(t, n, 1)
		talk.Minds[0][0].Calm[0], talk.Minds[0][1].Calm[0] = was, was
		_, talk, _ = On(n, talk, []api.Do{tick(1)})
		for i, m := range talk.Minds[0] {
			if m.Calm[0] != want {
				t.Errorf("bridge %d was %d: %d comes, not %d", i, was, m.Calm[0], want)
			}
		}
	}
}

// G2: a port that was designated and becomes root, or the other way round, goes on as calm as it was; what is blocked begins anew.
func TestCalmOverChanges(t *testing.T) {
	_, talk := mustPlay(t, two(), 1, tick(20), prior(1, 0, 0), tick(1))
	if a, b := talk.Minds[0][0], talk.Minds[0][1]; a.Roles[0] != designated || b.Roles[0] != designated || a.Calm[0] != 21 || b.Calm[0] != 21 {
		t.Errorf("%+v and %+v come", a, b)
	}
	_, talk = mustPlay(t, two(), 1, tick(20), prior(1, 0, 0), tick(2))
	if a, b := talk.Minds[0][0], talk.Minds[0][1]; a.Roles[0] != root || b.Roles[0] != designated || a.Calm[0] != 22 || b.Calm[0] != 22 {
		t.Errorf("%+v and %+v come", a, b)
	}
	_, talk = mustPlay(t, two(), 1, tick(20), down(0), tick(1), up(0), tick(3))
	if a, b := talk.Minds[0][0], talk.Minds[0][1]; a.Calm[0] != 3 || b.Calm[0] != 3 {
		t.Errorf("down for one tick: %+v and %+v come", a, b)
	}
	_, talk = mustPlay(t, two(), 1, tick(20), down(0), up(0), tick(1))
	if a := talk.Minds[0][0]; a.Calm[0] != 21 {
		t.Errorf("down for no tick: %+v comes", a)
	}
}

// G2: what is less than MaxHops old is taken; what is MaxHops old blocks still; what is older does neither, nor what is below 0.
func TestOldTales(t *testing.T) {
	for age, want := range map[int]api.Mind{
		0:            mind(5, 11, plain(9), 1, 3, []int{3}, []int{root}, []int{1}),
		18:           mind(5, 11, plain(9), 19, 3, []int{3}, []int{root}, []int{1}),
		19:           mind(5, 11, plain(9), 20, 3, []int{3}, []int{root}, []int{1}),
		20:           head(plain(9), []int{3}, []int{blocked}, []int{0}),
		21:           head(plain(9), []int{3}, []int{designated}, []int{1}),
		-1:           head(plain(9), []int{3}, []int{designated}, []int{1}),
		math.MaxInt:  head(plain(9), []int{3}, []int{designated}, []int{1}),
		math.MinInt:  head(plain(9), []int{3}, []int{designated}, []int{1}),
		api.MaxCost:  head(plain(9), []int{3}, []int{designated}, []int{1}),
		-api.MaxHops: head(plain(9), []int{3}, []int{designated}, []int{1}),
	} {
		talk := mustStart(t, two(), 1)
		talk.Minds[0][0].Vec, talk.Minds[0][0].Age = api.Vec{Root: 5, Cost: 5, Bridge: plain(8), Port: 77}, age
		_, talk, _ = On(two(), talk, []api.Do{tick(1)})
		if got := talk.Minds[0][1]; !same(got, want) {
			t.Errorf("age %d: %+v comes, not %+v", age, got, want)
		}
	}
}

// G2: a root that is too far is not taken, but blocks: what is told is as it is.
func TestFarRoots(t *testing.T) {
	for far, takes := range map[int]bool{
		0: true, 999999994: true, 999999995: false, 1000000000: false, 1000000001: false, math.MaxInt: false, -1: false, math.MinInt: false,
	} {
		talk := mustStart(t, two(), 1)
		talk.Minds[0][0].Vec = api.Vec{Root: 5, Cost: far, Bridge: plain(8)}
		_, talk, _ = On(two(), talk, []api.Do{tick(1)})
		want := head(plain(9), []int{3}, []int{blocked}, []int{0})
		if takes {
			want = mind(5, far+6, plain(9), 1, 3, []int{3}, []int{root}, []int{1})
		}
		if got := talk.Minds[0][1]; !same(got, want) {
			t.Errorf("%d: %+v comes, not %+v", far, got, want)
		}
	}
}

// G2: it is the other port that is heard, not what stands in the vector; of the same offers it decides.
func TestOtherPortIsHeard(t *testing.T) {
	n := api.Net{
		Bridges: []api.Bridge{bridge(9), bridge(1)},
		Links:   []api.Link{link(0, 1, 1, 7, 5), link(1, 3, 0, 8, 5), link(0, 4, 1, 6, 5), link(1, 2, 0, 2, 6)},
	}
	talk := mustStart(t, n, 1)
	talk.Minds[0][1].Vec.Port = 1
	_, talk, _ = On(n, talk, []api.Do{tick(1)})
	wantTalk(t, "four links", talk, api.Talk{Minds: [][]api.Mind{{
		mind(plain(1), 5, plain(9), 1, 8, []int{1, 2, 4, 8}, []int{blocked, blocked, blocked, root}, []int{0, 0, 0, 1}),
		head(plain(1), []int{2, 3, 6, 7}, []int{designated, designated, designated, designated}, []int{1, 1, 1, 1}),
	}}})
}

// G2, G3 against a reckoning of its own: from the start, and from talks with ghosts and numbers that no talk has.
func TestOnOfMany(t *testing.T) {
	next := pick(2)
	for range 600 {
		n := someNet(next)
		talk := knownStart(n, 1+next(4))
		wantOn(t, "from the start", n, talk, someDos(n, next, true))
		haunt(talk, next)
		wantOn(t, "haunted, as it is", n, talk, nil)
		wantOn(t, "haunted", n, talk, someDos(n, next, true))
	}
	for what, n := range goodNets() {
		wantOn(t, what, n, knownStart(n, 4), []api.Do{tick(0), tick(1), tick(30), tick(200)})
	}
}

// G3: Play is On from the start; and what is done at once comes out as what is done one after the other.
func TestPlayIsOnFromStart(t *testing.T) {
	next := pick(3)
	for range 200 {
		n := someNet(next)
		trees := 1 + next(4)
		l := someDos(n, next, false)
		wantN, wantT := mustPlay(t, n, trees, l...)
		gotN, gotT := n, mustStart(t, n, trees)
		for _, d := range l {
			var f api.Fault
			gotN, gotT, f = On(gotN, gotT, []api.Do{d})
			if f.Err != api.OK {
				t.Fatalf("%v comes of %v", f, d)
			}
		}
		wantNet(t, "one by one", gotN, wantN)
		wantTalk(t, "one by one", gotT, wantT)
		for i, d := range l {
			if d.Kind == api.DoTick {
				l = slices.Concat(l[:i], slices.Repeat([]api.Do{tick(1)}, d.N), l[i+1:])
				break
			}
		}
		if len(l) <= 30 {
			gotN, gotT = mustPlay(t, n, trees, l...)
			wantNet(t, "tick by tick", gotN, wantN)
			wantTalk(t, "tick by tick", gotT, wantT)
		}
	}
}

// G3: what is wrong with the net is told ahead of all else.
func TestOnWrongNets(t *testing.T) {
	for what, c := range wrongNets() {
		for _, talk := range []api.Talk{{}, knownStart(ring(), 1), knownStart(ring(), 5)} {
			wantFault(t, what, c.net, talk, nil, c.fault.Err, c.fault.At)
			wantFault(t, what, c.net, talk, make([]api.Do, 31), c.fault.Err, c.fault.At)
		}
	}
}

// G3: each way in which a talk does not go with a net; that is told ahead of what is done, at 0.
func TestOnFits(t *testing.T) {
	for what, change := range map[string]func(*api.Talk){
		"nil":             func(t *api.Talk) { t.Minds = nil },
		"no trees":        func(t *api.Talk) { t.Minds = [][]api.Mind{} },
		"5 trees":         func(t *api.Talk) { *t = knownStart(ring(), 5) },
		"no minds":        func(t *api.Talk) { t.Minds[1] = nil },
		"too few minds":   func(t *api.Talk) { t.Minds[2] = t.Minds[2][:3] },
		"too many minds":  func(t *api.Talk) { t.Minds[0] = append(t.Minds[0], api.Mind{}) },
		"no ports":        func(t *api.Talk) { t.Minds[2][3].Ports = nil },
		"too few ports":   func(t *api.Talk) { t.Minds[0][1].Ports = []int{2, 3} },
		"too many ports":  func(t *api.Talk) { t.Minds[0][1].Ports = []int{2, 3, 5, 6} },
		"other ports":     func(t *api.Talk) { t.Minds[0][1].Ports = []int{2, 3, 6} },
		"turned ports":    func(t *api.Talk) { t.Minds[1][0].Ports = []int{8, 2} },
		"no roles":        func(t *api.Talk) { t.Minds[0][0].Roles = nil },
		"too few roles":   func(t *api.Talk) { t.Minds[1][1].Roles = []int{0, 0} },
		"too many roles":  func(t *api.Talk) { t.Minds[2][2].Roles = []int{0, 0, 0} },
		"no calm":         func(t *api.Talk) { t.Minds[0][0].Calm = nil },
		"too little calm": func(t *api.Talk) { t.Minds[1][1].Calm = []int{0, 0} },
		"too much calm":   func(t *api.Talk) { t.Minds[2][3].Calm = []int{0, 0, 0, 0} },
		"turned bridges":  func(t *api.Talk) { slices.Reverse(t.Minds[1]) },
		"all in one": func(t *api.Talk) {
			m := &t.Minds[2][3]
			m.Ports, m.Roles, m.Calm = append(m.Ports, 10), append(m.Roles, 0), append(m.Calm, 0)
		},
	} {
		talk := knownStart(ring(), 3)
		wantOn(t, what, ring(), talk, nil)
		change(&talk)
		wantFault(t, what, ring(), talk, nil, api.ErrFit, 0)
		wantFault(t, what, ring(), talk, []api.Do{tick(1), {}}, api.ErrFit, 0)
		wantFault(t, what, ring(), talk, make([]api.Do, 31), api.ErrFit, 0)
	}
	wantFault(t, "a talk of another net", two(), knownStart(ring(), 1), nil, api.ErrFit, 0)
	wantFault(t, "a link less", with(ring(), func(n *api.Net) { n.Links = n.Links[:4] }), knownStart(ring(), 1), nil, api.ErrFit, 0)
	wantFault(t, "no net", api.Net{}, knownStart(two(), 1), nil, api.ErrFit, 0)
	wantFault(t, "no bridges, no trees", api.Net{}, api.Talk{}, nil, api.ErrFit, 0)
	wantFault(t, "no bridges, 5 trees", api.Net{}, api.Talk{Minds: make([][]api.Mind, 5)}, nil, api.ErrFit, 0)
	wantOn(t, "no bridges, 4 trees", api.Net{}, api.Talk{Minds: make([][]api.Mind, 4)}, []api.Do{tick(3)})
}

// G3: thirty things, and no more; that is told at 0, ahead of what is wrong with them.
func TestOnMany(t *testing.T) {
	n, talk := ring(), knownStart(ring(), 2)
	wantOn(t, "30 things", n, talk, slices.Repeat([]api.Do{tick(1), cost(0, 3)}, 15))
	wantFault(t, "31 things", n, talk, slices.Repeat([]api.Do{tick(1)}, 31), api.ErrMany, 0)
	wantFault(t, "31 wrong things", n, talk, make([]api.Do, 31), api.ErrMany, 0)
	wantFault(t, "30 wrong things", n, talk, make([]api.Do, 30), api.ErrKind, 0)
	if _, _, f := Play(n, 2, make([]api.Do, 31)); f != (api.Fault{Err: api.ErrMany}) {
		t.Errorf("%v comes of play", f)
	}
}

// G3: each number of each thing, at the ends of its range and beside them, at each place.
func TestDoFaults(t *testing.T) {
	for _, c := range []struct {
		what string
		do   func(n int) api.Do
		good []int
		bad  []int
		err  api.Errno
	}{
		{"ticks", tick, []int{0, 1, 199, 200}, []int{-1, 201, 1 << 40}, api.ErrRange},
		{"up", up, []int{0, 4}, []int{-1, 5, 40}, api.ErrNone},
		{"down", down, []int{0, 4}, []int{-1, 5, 40}, api.ErrNone},
		{"cost of a link", func(n int) api.Do { return cost(n, 9) }, []int{0, 4}, []int{-1, 5, 40}, api.ErrNone},
		{"cost", func(n int) api.Do { return cost(2, n) }, []int{1, 2, 199999, 200000}, []int{-1, 0, 200001}, api.ErrRange},
		{"priority of a bridge", func(n int) api.Do { return prior(n, 1, 4096) }, []int{0, 3}, []int{-1, 4, 12}, api.ErrNone},
		{"priority on a tree", func(n int) api.Do { return prior(1, n, 4096) }, []int{0, 1, 3, 4, 15}, []int{-1, 16}, api.ErrRange},
		{"priority", func(n int) api.Do { return prior(1, 2, n) }, []int{0, 4096, 32768, 61440}, []int{-1, 1, 4095, 4097, 61439, 61441, 65536, -4096, 1 << 50}, api.ErrRange},
		{"kind", func(n int) api.Do { return api.Do{Kind: n, Tree: 1, Value: 4096} }, []int{1, 2, 3, 4, 5}, []int{0, -1, 6, 7, 255, 256 + 1}, api.ErrKind},
	} {
		talk := knownStart(ring(), 2)
		for _, n := range c.good {
			wantOn(t, c.what, ring(), talk, []api.Do{tick(2), c.do(n), tick(3)})
		}
		for _, n := range append(c.bad, math.MinInt, math.MaxInt) {
			for at := range 3 {
				l := slices.Insert([]api.Do{tick(2), cost(1, 4), prior(0, 0, 0)}, at, c.do(n))
				wantFault(t, c.what, ring(), talk, l, c.err, at)
			}
			if _, _, f := Play(ring(), 2, []api.Do{c.do(n)}); f.Err != c.err {
				t.Errorf("%s %d: play says %v", c.what, n, f)
			}
		}
	}
}

// G3, Z4: what is not there is told ahead of a number that is wrong, and of two faults the one of the first thing.
func TestDoFaultsInOrder(t *testing.T) {
	n, talk := ring(), knownStart(ring(), 1)
	wantFault(t, "no link, and no cost", n, talk, []api.Do{cost(5, 0)}, api.ErrNone, 0)
	wantFault(t, "no bridge, tree and priority", n, talk, []api.Do{prior(4, 16, 5)}, api.ErrNone, 0)
	wantFault(t, "no bridge, and no priority", n, talk, []api.Do{prior(-1, 0, 5)}, api.ErrNone, 0)
	wantFault(t, "two faults", n, talk, []api.Do{tick(1), cost(0, 0), up(9)}, api.ErrRange, 1)
	wantFault(t, "two faults, turned", n, talk, []api.Do{tick(1), up(9), cost(0, 0)}, api.ErrNone, 1)
	wantFault(t, "kind, then all else", n, talk, []api.Do{{Kind: 9, N: -1, Tree: -1, Value: -1}, up(9)}, api.ErrKind, 0)
	wantFault(t, "the last of thirty", n, talk, append(slices.Repeat([]api.Do{tick(1)}, 29), tick(201)), api.ErrRange, 29)
	wantFault(t, "no links at all", api.Net{Bridges: []api.Bridge{bridge(1)}}, knownStart(api.Net{Bridges: []api.Bridge{bridge(1)}}, 1), []api.Do{up(0)}, api.ErrNone, 0)
	wantFault(t, "no bridges at all", api.Net{}, api.Talk{Minds: make([][]api.Mind, 1)}, []api.Do{prior(0, 0, 0)}, api.ErrNone, 0)
}

// Z5: fields that a kind has not mean nothing.
func TestDoFieldsThatMeanNothing(t *testing.T) {
	talk := knownStart(ring(), 2)
	for _, d := range []api.Do{tick(3), up(1), down(1), cost(1, 7)} {
		wantN, wantT, _ := On(ring(), talk, []api.Do{d, tick(2)})
		for _, odd := range []int{-1, 16, 5, math.MinInt, math.MaxInt} {
			d.Tree = odd
			if d.Kind != api.DoCost {
				d.Value = odd
			}
			gotN, gotT, f := On(ring(), talk, []api.Do{d, tick(2)})
			if f != (api.Fault{}) {
				t.Errorf("%v: %v comes", d, f)
			}
			wantNet(t, "odd fields", gotN, wantN)
			wantTalk(t, "odd fields", gotT, wantT)
		}
	}
}

// G3: links change as they are told to, those that are so already too, and nothing else does; no mind changes without a tick.
func TestDoLinks(t *testing.T) {
	for i := range ring().Links {
		for what, c := range map[string]struct {
			l    []api.Do
			want func(*api.Link)
		}{
			"down":            {[]api.Do{down(i)}, func(k *api.Link) { k.Up = false }},
			"down twice":      {[]api.Do{down(i), down(i)}, func(k *api.Link) { k.Up = false }},
			"up":              {[]api.Do{up(i)}, func(k *api.Link) {}},
			"down and up":     {[]api.Do{down(i), up(i)}, func(k *api.Link) {}},
			"cost":            {[]api.Do{cost(i, 77)}, func(k *api.Link) { k.Cost = 77 }},
			"greatest cost":   {[]api.Do{cost(i, 5), cost(i, 200000)}, func(k *api.Link) { k.Cost = 200000 }},
			"cost, then down": {[]api.Do{cost(i, 1), down(i)}, func(k *api.Link) { k.Cost, k.Up = 1, false }},
		} {
			want := ring()
			c.want(&want.Links[i])
			m, talk := mustPlay(t, ring(), 2, c.l...)
			wantNet(t, what, m, want)
			wantTalk(t, what, talk, knownStart(ring(), 2))
		}
	}
}

// G3: a bridge gets its priority on that tree; those ahead that it has not are 32768, and those that it has stay.
func TestDoPriorities(t *testing.T) {
	for _, c := range []struct {
		has, want []int
		l         []api.Do
	}{
		{nil, []int{4096}, []api.Do{prior(0, 0, 4096)}},
		{nil, []int{32768}, []api.Do{prior(0, 0, 32768)}},
		{nil, []int{32768, 32768, 0}, []api.Do{prior(0, 2, 0)}},
		{[]int{8192}, []int{8192, 61440}, []api.Do{prior(0, 1, 61440)}},
		{[]int{8192}, []int{8192, 32768, 32768, 4096}, []api.Do{prior(0, 3, 4096)}},
		{[]int{8192, 0, 4096}, []int{8192, 12288, 4096}, []api.Do{prior(0, 1, 12288)}},
		{[]int{8192, 0, 4096}, []int{8192, 0, 12288}, []api.Do{prior(0, 2, 12288)}},
		{[]int{0}, append(append([]int{0}, slices.Repeat([]int{32768}, 14)...), 4096), []api.Do{prior(0, 15, 4096)}},
		{make([]int, 16), append(make([]int, 15), 4096), []api.Do{prior(0, 15, 4096)}},
		{nil, []int{8192, 32768, 4096}, []api.Do{prior(0, 2, 4096), prior(0, 0, 8192)}},
		{nil, []int{32768, 8192}, []api.Do{prior(0, 1, 4096), prior(0, 1, 8192)}},
	} {
		n := two()
		n.Bridges[0].Prios = c.has
		want := two()
		want.Bridges[0].Prios = c.want
		m, talk := mustPlay(t, n, 1, c.l...)
		wantNet(t, "priorities", m, want)
		wantTalk(t, "no mind changes without a tick", talk, knownStart(n, 1))
	}
}

// G3: what is changed counts from the next tick on.
func TestChangesCount(t *testing.T) {
	for what, c := range map[string]struct {
		do   api.Do
		want []api.Mind
	}{
		"cost": {cost(0, 9), []api.Mind{
			head(plain(8), []int{4}, []int{designated}, []int{4}),
			mind(plain(8), 9, plain(9), 1, 3, []int{3}, []int{root}, []int{4}),
		}},
		"down": {down(0), []api.Mind{
			head(plain(8), []int{4}, []int{none}, []int{0}),
			head(plain(9), []int{3}, []int{none}, []int{0}),
		}},
		"less priority": {prior(1, 0, 4096), []api.Mind{
			head(plain(8), []int{4}, []int{designated}, []int{4}), // the other one's old tale is what it heard
			head(4096<<48+9, []int{3}, []int{designated}, []int{4}),
		}},
		"greater priority": {prior(0, 0, 61440), []api.Mind{
			mind(plain(8), 12, 61440<<48+8, 2, 4, []int{4}, []int{root}, []int{4}), // the ghost of its own old self
			mind(plain(8), 6, plain(9), 1, 3, []int{3}, []int{root}, []int{4}),
		}},
		"a tree that the talk has not": {prior(1, 1, 4096), []api.Mind{
			head(plain(8), []int{4}, []int{designated}, []int{4}),
			mind(plain(8), 6, plain(9), 1, 3, []int{3}, []int{root}, []int{4}),
		}},
	} {
		_, talk := mustPlay(t, two(), 1, tick(3), c.do, tick(1))
		wantTalk(t, what, talk, api.Talk{Minds: [][]api.Mind{c.want}})
	}
}

// G2: behind MaxHops and one ticks no ghost is left, whatever talk was handed in.
func TestNoGhostOutlivesMaxHops(t *testing.T) {
	next := pick(4)
	for range 200 {
		n := someNet(next)
		talk := knownStart(n, 2)
		haunt(talk, next)
		_, talk, f := On(n, talk, []api.Do{tick(api.MaxHops + 1)})
		for tree, minds := range talk.Minds {
			for _, m := range minds {
				if !slices.ContainsFunc(n.Bridges, func(b api.Bridge) bool { return knownIdent(b, tree) == m.Vec.Root }) {
					t.Errorf("%v: tree %d: %+v has a ghost for its root", f, tree, m)
				}
			}
		}
	}
	n := chain(3, true)
	ages := func(ticks int) []int {
		_, talk := mustPlay(t, n, 1, tick(9), down(0), tick(ticks))
		var l []int
		for _, m := range talk.Minds[0] {
			if m.Vec.Root == plain(100) {
				l = append(l, m.Age)
			}
		}
		return l
	}
	for ticks, want := range map[int][]int{0: {0, 1, 2}, 1: {0, 3, 2}, 2: {0, 3, 4}, 17: {0, 19, 18}, 18: {0, 19, 20}, 19: {0, 20}, 20: {0}, 21: {0}} {
		if got := ages(ticks); !slices.Equal(got, want) {
			t.Errorf("behind %d ticks: ages %v come, not %v", ticks, got, want)
		}
	}
}

// G2, G3: behind Settle ticks all stand as they must, whatever was done, and whatever talk was handed in.
func TestTheyAgree(t *testing.T) {
	next := pick(5)
	agree := func(what string, n api.Net, talk api.Talk) {
		t.Helper()
		for tree, minds := range talk.Minds {
			places, _ := plan.Plan(n, tree)
			for i, m := range minds {
				p := places[i]
				if m.Vec != p.Vec || m.RootPort != p.RootPort || !slices.Equal(m.Ports, p.Ports) || !slices.Equal(m.Roles, p.Roles) {
					t.Errorf("%s: tree %d, bridge %d: %+v comes, not %+v", what, tree, i, m, p)
				}
			}
		}
	}
	for range 300 {
		n := someNet(next)
		m, talk := mustPlay(t, n, 3, append(someDos(n, next, false), tick(api.Settle))...)
		agree("played", m, talk)
		talk = knownStart(n, 3)
		haunt(talk, next)
		m, talk, _ = On(n, talk, append(someDos(n, next, false), tick(api.Settle)))
		agree("haunted", m, talk)
	}
	_, talk := mustPlay(t, two(), 4, tick(2))
	agree("the document's two", two(), talk)
}

// opensRing says whether frames can go round over links whose ends are both open.
func opensRing(n api.Net, talk api.Talk, tree int) bool {
	isle := make([]int, len(n.Bridges))
	for i := range isle {
		isle[i] = i
	}
	for _, k := range n.Links {
		if !k.Up || !Opens(talk, tree, k.A, k.PortA) || !Opens(talk, tree, k.B, k.PortB) {
			continue
		}
		a, b := isle[k.A], isle[k.B]
		if a == b {
			return true
		}
		for i := range isle {
			if isle[i] == b {
				isle[i] = a
			}
		}
	}
	return false
}

// G2, G4: where changes are far apart, frames never can go round, at no tick; and behind Settle and Wait all that hang together are joined.
func TestNeverARing(t *testing.T) {
	next := pick(6)
	for range 12 {
		n := someNet(next)
		m, talk := mustPlay(t, n, 2)
		for range 4 {
			m, talk, _ = On(m, talk, []api.Do{someChange(n, next)})
			for range api.Settle + api.Wait {
				m, talk, _ = On(m, talk, []api.Do{tick(1)})
				for tree := range 2 {
					if opensRing(m, talk, tree) {
						t.Fatalf("tree %d: a ring: %+v of %+v", tree, talk, m)
					}
				}
			}
			wantJoined(t, m, talk)
		}
	}
}

// wantJoined: each bridge but the roots is joined to its root by its root port, and who speaks there is open, too.
func wantJoined(t *testing.T, n api.Net, talk api.Talk) {
	t.Helper()
	for tree, minds := range talk.Minds {
		for i, m := range minds {
			for _, k := range knownLinks(n, i) {
				if k.PortA == m.RootPort && (!Opens(talk, tree, i, k.PortA) || !Opens(talk, tree, k.B, k.PortB)) {
					t.Errorf("tree %d: bridge %d is shut off", tree, i)
				}
			}
		}
	}
}

// G4: a port opens behind Wait ticks as root or designated, not one ahead of that; what is blocked, or has no role, does not.
func TestOpensBehindWait(t *testing.T) {
	for _, ticks := range []int{0, 1, 40, 49, 50, 51, 95, 200} {
		_, talk := mustPlay(t, ring(), 2, tick(ticks))
		for what, at := range map[string]api.Port{"root": {Bridge: 0, Port: 2}, "designated": {Bridge: 1, Port: 5}} {
			if got, want := Opens(talk, 0, at.Bridge, at.Port), ticks >= 50; got != want {
				t.Errorf("%s, %d ticks: %v comes", what, ticks, got)
			}
		}
		if Opens(talk, 0, 3, 9) {
			t.Errorf("blocked, %d ticks: it is open", ticks)
		}
		_, talk = mustPlay(t, ring(), 2, tick(95), down(0), tick(1), up(0), tick(ticks))
		if got, want := Opens(talk, 0, 1, 3), ticks >= 50; got != want {
			t.Errorf("up again, %d ticks: %v comes", ticks, got)
		}
		_, talk = mustPlay(t, ring(), 2, tick(95), down(0), tick(1+ticks/2))
		if Opens(talk, 0, 1, 3) {
			t.Errorf("down, %d ticks: it is open", ticks)
		}
	}
}

// G4: Calm alone counts, at Wait and beside it.
func TestOpensByCalm(t *testing.T) {
	for calm, want := range map[int]bool{0: false, 1: false, 49: false, 50: true, 51: true, math.MaxInt: true, -1: false, -50: false, math.MinInt: false} {
		for role := -1; role <= 4; role++ {
			talk := api.Talk{Minds: [][]api.Mind{{{}}, {{}, {Ports: []int{3, 7, 9}, Roles: []int{0, role, 0}, Calm: []int{0, calm, 0}}}}}
			if got := Opens(talk, 1, 1, 7); got != want {
				t.Errorf("calm %d, role %d: %v comes", calm, role, got)
			}
		}
	}
}

// G4: trees, bridges and ports that are not there; and each that is there is told from the others.
func TestOpensWhatIsNotThere(t *testing.T) {
	talk := knownStart(ring(), 4)
	odd := []int{math.MinInt, -2, -1, 0, 1, 2, 3, 4, 5, 6, 7, 8, 9, 10, math.MaxInt}
	for tree := range talk.Minds {
		for i := range talk.Minds[tree] {
			for at := range talk.Minds[tree][i].Calm {
				one := copyOf(talk)
				one.Minds[tree][i].Calm[at] = 50
				for _, a := range odd {
					for _, b := range odd {
						for _, c := range odd {
							want := a == tree && b == i && c == one.Minds[tree][i].Ports[at]
							if got := Opens(one, a, b, c); got != want {
								t.Errorf("%d, %d, %d of %d, %d, %d: %v comes", a, b, c, tree, i, at, got)
							}
						}
					}
				}
			}
		}
	}
	for _, talk := range []api.Talk{{}, {Minds: [][]api.Mind{}}, {Minds: [][]api.Mind{nil, {}}}, {Minds: [][]api.Mind{{{}}}}} {
		for _, n := range odd {
			if Opens(talk, n, n, n) || Opens(talk, 0, n, 0) || Opens(talk, 0, 0, n) || Opens(talk, 1, n, 0) {
				t.Errorf("%v opens at %d", talk, n)
			}
		}
	}
}

// G4: of ports that are the same the first one counts; one without a Calm does not open; nothing else is asked of a talk.
func TestOpensOddTalks(t *testing.T) {
	of := func(ports, calm []int) api.Talk {
		return api.Talk{Minds: [][]api.Mind{{{Ports: ports, Calm: calm}}}}
	}
	for _, c := range []struct {
		what        string
		ports, calm []int
		port        int
		want        bool
	}{
		{"the first is calm", []int{5, 5}, []int{50, 0}, 5, true},
		{"the second is calm", []int{5, 5}, []int{0, 50}, 5, false},
		{"the second has none", []int{5, 5}, []int{50}, 5, true},
		{"none is calm", []int{5}, nil, 5, false},
		{"too little calm", []int{4, 5}, []int{50}, 5, false},
		{"too little calm, ahead", []int{4, 5}, []int{50}, 4, true},
		{"more calm than ports", []int{4}, []int{0, 50}, 5, false},
		{"no ports", nil, []int{50}, 0, false},
		{"ports that fall", []int{9, 2}, []int{0, 50}, 2, true},
		{"a port below 0", []int{-1}, []int{50}, -1, true},
		{"port 0", []int{0}, []int{50}, 0, true},
		{"a port above all", []int{math.MaxInt}, []int{50}, math.MaxInt, true},
	} {
		if got := Opens(of(c.ports, c.calm), 0, 0, c.port); got != c.want {
			t.Errorf("%s: %v comes", c.what, got)
		}
	}
	if many := (api.Talk{Minds: slices.Repeat([][]api.Mind{{{Ports: []int{1}, Calm: []int{50}}}}, 20)}); !Opens(many, 19, 0, 1) {
		t.Error("more trees than a talk has: the last one does not open")
	}
}

// Z3: nil and empty are the same, wherever they stand.
func TestNilIsEmpty(t *testing.T) {
	for what, n := range goodNets() {
		empty := copyOf(n) // its lists are empty where they are nil in n
		var without api.Net
		for _, b := range n.Bridges {
			if len(b.Prios) == 0 {
				b.Prios = nil
			}
			without.Bridges = append(without.Bridges, b)
		}
		without.Links = append(without.Links, n.Links...)
		bare := knownStart(n, 2) // its lists are nil where they have nothing
		for _, l := range [][]api.Do{nil, {}, {tick(3), prior(0, 2, 0)}} {
			for _, m := range []api.Net{empty, without} {
				for _, talk := range []api.Talk{bare, copyOf(bare)} {
					wantOn(t, what, m, talk, l)
				}
				wantTalk(t, what, mustStart(t, m, 2), bare)
			}
		}
	}
}

// spaced is v in memory of its own, with rubbish in the spare room behind each list.
func spaced(v reflect.Value) reflect.Value {
	switch v.Kind() {
	case reflect.Slice:
		c := reflect.MakeSlice(v.Type(), v.Len()+3, v.Len()+3)
		for i := range c.Len() {
			if i < v.Len() {
				c.Index(i).Set(spaced(v.Index(i)))
			} else if c.Index(i).Kind() == reflect.Int {
				c.Index(i).SetInt(50)
			}
		}
		return c.Slice(0, v.Len())
	case reflect.Struct:
		c := reflect.New(v.Type()).Elem()
		for i := range v.NumField() {
			c.Field(i).Set(spaced(v.Field(i)))
		}
		return c
	}
	return v
}

func spacedOf[T any](x T) T {
	return spaced(reflect.ValueOf(x)).Interface().(T)
}

// fills are things to do that change all that can be.
func fills(n api.Net) []api.Do {
	l := []api.Do{tick(5)}
	if len(n.Links) > 0 {
		l = append(l, down(0), tick(1), up(0), cost(0, 77))
	}
	if len(n.Bridges) > 0 {
		l = append(l, prior(0, 15, 0), prior(0, 0, 0))
	}
	return append(l, tick(60))
}

// Z2: lists and their spare room are neither changed nor looked at, whether all is well or not.
func TestArgumentsAreOnlyRead(t *testing.T) {
	nets := goodNets()
	for what, c := range wrongNets() {
		nets[what+" is wrong"] = c.net
	}
	for what, n := range nets {
		talk := knownStart(ring(), 2)
		if plan.Wrong(n).Err == api.OK {
			talk = knownStart(n, 2)
		}
		for _, l := range [][]api.Do{nil, fills(n), append(fills(n), api.Do{}), make([]api.Do, 31)} {
			for _, minds := range []int{2, 0} {
				wide, said, does := spacedOf(n), spacedOf(api.Talk{Minds: talk.Minds[:minds]}), spacedOf(l)
				beforeN, beforeT, beforeL := roomy(wide), roomy(said), roomy(does)
				wantN, wantT, wantF := On(n, api.Talk{Minds: talk.Minds[:minds]}, l)
				gotN, gotT, gotF := On(wide, said, does)
				if gotF != wantF || !same(gotN, wantN) || !same(gotT, wantT) {
					t.Errorf("%s: spare room shows: %v, not %v", what, gotF, wantF)
				}
				Play(wide, 2, does)
				Start(wide, 3)
				Opens(said, 0, 0, 50)
				if !reflect.DeepEqual(beforeN, roomy(wide)) || !reflect.DeepEqual(beforeT, roomy(said)) || !reflect.DeepEqual(beforeL, roomy(does)) {
					t.Errorf("%s: something was changed", what)
				}
			}
		}
	}
	talk := spacedOf(api.Talk{Minds: [][]api.Mind{{{Ports: []int{1, 2}, Calm: []int{50}}}}})
	if Opens(talk, 0, 0, 2) || Opens(talk, 0, 0, 50) || Opens(talk, 0, 1, 0) || Opens(talk, 1, 0, 0) {
		t.Error("spare room opens")
	}
}

// scrub writes over all of a list, its spare room too, and all that hangs on it.
func scrub(v reflect.Value) {
	switch v.Kind() {
	case reflect.Slice:
		v = v.Slice(0, v.Cap())
		for i := range v.Len() {
			scrub(v.Index(i))
		}
	case reflect.Struct:
		for i := range v.NumField() {
			scrub(v.Field(i))
		}
	case reflect.Int:
		if v.CanSet() {
			v.SetInt(-77)
		}
	}
}

// Z2: what is answered stays, whatever becomes of what was handed in; and the other way round.
func TestNothingIsKept(t *testing.T) {
	for what, n := range goodNets() {
		for _, l := range [][]api.Do{nil, fills(n)} {
			start := knownStart(n, 2)
			wantN, wantT, _ := knownOn(n, start, l)
			wide, said, does := spacedOf(n), spacedOf(start), spacedOf(l)
			first, _ := Start(wide, 2)
			playN, playT, _ := Play(wide, 2, does)
			gotN, gotT, _ := On(wide, said, does)
			beforeN, beforeT := roomy(wide), roomy(said)
			for _, x := range []any{playN, playT} {
				scrub(reflect.ValueOf(x))
			}
			if !reflect.DeepEqual(beforeN, roomy(wide)) || !reflect.DeepEqual(beforeT, roomy(said)) {
				t.Errorf("%s: an answer lies in what was handed in", what)
			}
			for _, x := range []any{wide, said, does} {
				scrub(reflect.ValueOf(x))
			}
			wantTalk(t, what, first, start)
			wantNet(t, what, gotN, wantN)
			wantTalk(t, what, gotT, wantT)
		}
	}
}

// room is where a list lies in memory, with its spare room.
type room struct{ from, to uintptr }

// roomsOf are the rooms of all lists in v.
func roomsOf(v reflect.Value) []room {
	var l []room
	switch v.Kind() {
	case reflect.Slice:
		if size := uintptr(v.Cap()) * v.Type().Elem().Size(); size > 0 {
			l = append(l, room{v.Pointer(), v.Pointer() + size})
		}
		for i := range v.Len() {
			l = append(l, roomsOf(v.Index(i))...)
		}
	case reflect.Struct:
		for i := range v.NumField() {
			l = append(l, roomsOf(v.Field(i))...)
		}
	}
	return l
}

// Z2: no two lists of what is answered lie in each other, nor in what was handed in, nor in another answer; their spare room does not either.
func TestAnswersShareNothing(t *testing.T) {
	for what, n := range goodNets() {
		for _, l := range [][]api.Do{nil, {tick(1)}, fills(n)} {
			talk := knownStart(n, 3)
			first, _ := Start(n, 3)
			playN, playT, _ := Play(n, 3, l)
			onN, onT, _ := On(n, talk, l)
			againN, againT, _ := On(n, talk, l)
			var rooms []room
			for _, x := range []any{n.Links, n.Bridges, l, talk, first, playN, playT, onN, onT, againN, againT} {
				rooms = append(rooms, roomsOf(reflect.ValueOf(x))...)
			}
			slices.SortFunc(rooms, func(a, b room) int { return cmp.Compare(a.from, b.from) })
			for i := range rooms {
				if i > 0 && rooms[i-1].to > rooms[i].from {
					t.Errorf("%s, %v: two lists share memory", what, l)
				}
			}
			runtime.KeepAlive([]any{n, l, talk, first, playN, playT, onN, onT, againN, againT})
		}
	}
}

// Z1: calls at the same time do not see each other.
func TestManyAskAtOnce(t *testing.T) {
	n, start := ring(), knownStart(ring(), 2)
	var all sync.WaitGroup
	for i := range 8 {
		all.Go(func() {
			wantOn(t, "at once", n, start, []api.Do{tick(i), down(i % 5), tick(3), prior(i%4, 3, 0), tick(9)})
		})
	}
	all.Wait()
}

// Z1: nothing panics, and all ends, of talks and nets that are none either.
func TestNothingPanics(t *testing.T) {
	odd := []int{math.MinInt, -1, 0, 1, 31, math.MaxInt}
	for _, a := range odd {
		for _, b := range odd {
			for kind := -1; kind <= 6; kind++ {
				d := api.Do{Kind: kind, N: a, Tree: b, Value: a}
				Play(ring(), 1, []api.Do{d})
				Play(api.Net{}, 1, []api.Do{d})
				On(ring(), api.Talk{Minds: [][]api.Mind{nil, {{}}}}, []api.Do{d})
			}
			n := api.Net{Bridges: []api.Bridge{bridge(1), bridge(2)}, Links: []api.Link{link(a, b, b, a, 1)}}
			Start(n, 1)
			On(n, knownStart(two(), 1), nil)
			Opens(knownStart(two(), 1), a, b, a)
		}
	}
	most := slices.Repeat([]api.Do{tick(200)}, 30)
	wantN, wantT := mustPlay(t, full(), 4, tick(200))
	gotN, gotT := mustPlay(t, full(), 4, most...)
	wantNet(t, "as much as may be", gotN, wantN)
	wantTalk(t, "as much as may be", gotT, wantT)
}

// FuzzOn: nothing panics, and what comes is as it is reckoned.
func FuzzOn(f *testing.F) {
	f.Add(uint64(1), false, 0, 0, 0)
	f.Add(uint64(2), true, 1, 2, 3)
	f.Add(uint64(3), true, -1, 9, 30)
	f.Fuzz(func(t *testing.T, seed uint64, haunted bool, tree, bridge, port int) {
		next := pick(seed)
		n := someNet(next)
		talk := knownStart(n, 1+next(4))
		if haunted {
			haunt(talk, next)
		}
		wantOn(t, "fuzz", n, talk, someDos(n, next, true))
		if got, want := Opens(talk, tree, bridge, port), knownOpens(talk, tree, bridge, port); got != want {
			t.Errorf("%d, %d, %d: %v comes", tree, bridge, port, got)
		}
	})
}
