package plan

import (
	"math"
	"reflect"
	"slices"
	"strings"
	"sync"
	"testing"

	"hedgerow/api"
)

// with is something, changed.
func with[T any](x T, change func(*T)) T {
	change(&x)
	return x
}

func someRegion() api.Region {
	return api.Region{Name: "hedge", Revision: 7, Ways: []api.Way{{VID: 5, Tree: 2}, {VID: 9, Tree: 1}}}
}

func bridge(addr uint64, prios ...int) api.Bridge {
	return api.Bridge{Addr: addr, Prios: prios, Region: someRegion()}
}

func link(a, portA, b, portB, cost int) api.Link {
	return api.Link{A: a, PortA: portA, B: b, PortB: portB, Cost: cost, Up: true}
}

// plain is the identity of a bridge without a priority.
func plain(addr uint64) uint64 {
	return 0x8000_0000_0000_0000 + addr
}

// ring is four bridges, each with two neighbours, and one link across; nothing in it is at an end of its range.
func ring() api.Net {
	return api.Net{
		Bridges: []api.Bridge{bridge(40, 32768, 8192), bridge(30, 4096), bridge(20, 32768, 4096, 61440), bridge(50)},
		Links:   []api.Link{link(0, 2, 1, 3, 10), link(1, 5, 2, 4, 20), link(2, 7, 3, 6, 30), link(3, 9, 0, 8, 40), link(1, 2, 3, 2, 25)},
	}
}

// chain is so many bridges in a row, and the less address at one of its ends.
func chain(n int, rises bool) api.Net {
	var c api.Net
	for i := range n {
		addr := uint64(100 - i)
		if rises {
			addr = uint64(100 + i)
		}
		c.Bridges = append(c.Bridges, bridge(addr))
		if i > 0 {
			c.Links = append(c.Links, link(i-1, 1, i, 2, 10*i))
		}
	}
	return c
}

// full has as much of all as may be, and numbers at the ends of their ranges.
func full() api.Net {
	var n api.Net
	for i := range 12 {
		b := bridge(api.MaxAddr-uint64(i), slices.Repeat([]int{61440}, 16)...)
		b.Region = api.Region{Name: strings.Repeat("~", 32), Revision: 65535}
		for vid := range 4094 {
			b.Region.Ways = append(b.Region.Ways, api.Way{VID: vid + 1, Tree: 15 - vid%15})
		}
		n.Bridges = append(n.Bridges, b)
	}
	for i := range 40 {
		a := i % 12
		n.Links = append(n.Links, link(a, 30-i/12, (a+1+i/12)%12, 1+i/12, []int{1, api.MaxStep}[i%2]))
	}
	return n
}

// goodNets are nets of which Wrong says nothing.
func goodNets() map[string]api.Net {
	return map[string]api.Net{
		"nothing":    {},
		"one bridge": {Bridges: []api.Bridge{bridge(0)}},
		"ring":       ring(),
		"chain":      chain(12, true),
		"full":       full(),
		"two links between two bridges": {
			Bridges: []api.Bridge{bridge(1), bridge(2)},
			Links:   []api.Link{link(0, 1, 1, 1, 5), link(1, 2, 0, 2, 5)},
		},
		"down, of unlike regions": {
			Bridges: []api.Bridge{bridge(1), with(bridge(2), func(b *api.Bridge) { b.Region.Name = "x" })},
			Links:   []api.Link{{A: 0, PortA: 1, B: 1, PortB: 1, Cost: 5}},
		},
		"two islands": {
			Bridges: []api.Bridge{bridge(4), bridge(3), bridge(2), bridge(1)},
			Links:   []api.Link{link(0, 1, 1, 1, 5), link(3, 1, 2, 1, 5)},
		},
	}
}

// knownWrong is what F1 says: all faults, as they are named, of which the first one counts.
func knownWrong(n api.Net) api.Fault {
	var l []api.Fault
	tell := func(is bool, err api.Errno, at int) {
		if is {
			l = append(l, api.Fault{Err: err, At: at})
		}
	}
	out := func(x, least, most int) bool { return x < least || x > most }
	tell(len(n.Bridges) > 12 || len(n.Links) > 40, api.ErrMany, 0)
	for i, b := range n.Bridges {
		tell(b.Addr >= 1<<48, api.ErrRange, i)
		tell(len(b.Prios) > 16, api.ErrMany, i)
		for _, p := range b.Prios {
			tell(out(p, 0, 61440) || p&4095 != 0, api.ErrRange, i)
		}
		err := knownWrongRegion(b.Region)
		tell(err != api.OK, err, i)
		for _, c := range n.Bridges[:i] {
			tell(c.Addr == b.Addr, api.ErrName, i)
		}
	}
	for i, k := range n.Links {
		tell(out(k.A, 0, len(n.Bridges)-1) || out(k.B, 0, len(n.Bridges)-1), api.ErrNone, i)
		tell(k.A == k.B, api.ErrFit, i)
		tell(out(k.PortA, 1, 30) || out(k.PortB, 1, 30) || out(k.Cost, 1, 200000), api.ErrRange, i)
		for _, e := range [][2]int{{k.A, k.PortA}, {k.B, k.PortB}} {
			for _, j := range n.Links[:i] {
				tell(e == [2]int{j.A, j.PortA} || e == [2]int{j.B, j.PortB}, api.ErrName, i)
			}
		}
	}
	return append(l, api.Fault{})[0]
}

// knownWrongRegion is what C1 says.
func knownWrongRegion(r api.Region) api.Errno {
	if r.Name == "" || len(r.Name) > 32 || strings.ContainsFunc(r.Name, func(c rune) bool { return c < ' ' || c > '~' }) {
		return api.ErrName
	}
	if r.Revision < 0 || r.Revision > 65535 {
		return api.ErrRange
	}
	for i, w := range r.Ways {
		if w.VID < 1 || w.VID > 4094 || w.Tree < 1 || w.Tree > 15 {
			return api.ErrRange
		}
		if i > 0 && r.Ways[i-1].VID >= w.VID {
			return api.ErrForm
		}
	}
	return api.OK
}

// knownPlan is what F3 says: ways by the cheapest step between each two, then ports one by one.
func knownPlan(n api.Net, tree int) []api.Place {
	size := len(n.Bridges)
	ids := make([]uint64, size)
	for i, b := range n.Bridges {
		ids[i] = plain(b.Addr)
		if tree < len(b.Prios) {
			ids[i] = uint64(b.Prios[tree])*(1<<48) + b.Addr
		}
	}
	far := knownCosts(n)
	places := make([]api.Place, size)
	for i := range places {
		root := i
		for j := range places {
			if far[i][j] >= 0 && ids[j] < ids[root] {
				root = j
			}
		}
		places[i].Vec = api.Vec{Root: ids[root], Cost: far[i][root], Bridge: ids[i]}
	}
	for i := range places {
		knownPorts(n, i, places)
	}
	return places
}

// knownLive is what F2 says of a link; regions are held against each other as they are written, without a digest.
func knownLive(n api.Net, k api.Link) bool {
	a, b := n.Bridges[k.A].Region, n.Bridges[k.B].Region
	return k.Up && a.Name == b.Name && a.Revision == b.Revision && slices.Equal(a.Ways, b.Ways)
}

// knownCosts are what the cheapest ways between each two bridges cost; -1, if there is none.
func knownCosts(n api.Net) [][]int {
	far := make([][]int, len(n.Bridges))
	for i := range far {
		far[i] = slices.Repeat([]int{-1}, len(far))
		far[i][i] = 0
	}
	cheaper := func(a, b, cost int) {
		if far[a][b] < 0 || far[a][b] > cost {
			far[a][b] = cost
		}
	}
	for _, k := range n.Links {
		if knownLive(n, k) {
			cheaper(k.A, k.B, k.Cost)
			cheaper(k.B, k.A, k.Cost)
		}
	}
	for mid := range far {
		for a := range far {
			for b := range far {
				if far[a][mid] >= 0 && far[mid][b] >= 0 {
					cheaper(a, b, far[a][mid]+far[mid][b])
				}
			}
		}
	}
	return far
}

// knownPorts lays down root port, ports and roles of bridge i, whose Vec stands, as those of all others do.
func knownPorts(n api.Net, i int, places []api.Place) {
	p := &places[i]
	p.RootPort = -1
	var least []uint64
	for port := 1; port <= 30; port++ {
		for _, k := range n.Links {
			if k.B == i && k.PortB == port {
				k.A, k.PortA, k.B, k.PortB = k.B, k.PortB, k.A, k.PortA
			}
			if k.A != i || k.PortA != port {
				continue
			}
			other := places[k.B].Vec
			role := api.RoleDesignated
			if other.Cost < p.Vec.Cost || other.Cost == p.Vec.Cost && other.Bridge < p.Vec.Bridge {
				role = api.RoleBlocked
			}
			if !knownLive(n, k) {
				role = api.RoleNone
			} else if rank := []uint64{other.Bridge, uint64(k.PortB), uint64(port)}; other.Cost+k.Cost == p.Vec.Cost && (least == nil || slices.Compare(rank, least) < 0) {
				least, p.RootPort = rank, port
			}
			p.Ports, p.Roles = append(p.Ports, port), append(p.Roles, role)
		}
	}
	if at := slices.Index(p.Ports, p.RootPort); at >= 0 {
		p.Roles[at] = api.RoleRoot
	}
}

// pick is a row of numbers that hang on seed alone.
func pick(seed uint64) func(n int) int {
	return func(n int) int {
		seed = seed*6364136223846793005 + 1442695040888963407
		return int((seed >> 33) % uint64(n))
	}
}

// someNet is a good net: its costs are often the same, some of its links are down, and some of its regions unlike.
func someNet(next func(int) int) api.Net {
	var n api.Net
	addrs := []uint64{0, 1, 2, 3, 100, 101, 102, 1 << 24, 1 << 40, api.MaxAddr - 2, api.MaxAddr - 1, api.MaxAddr}
	for range 1 + next(12) {
		at := next(len(addrs))
		b := bridge(addrs[at])
		addrs = slices.Delete(addrs, at, at+1)
		for range next(4) {
			b.Prios = append(b.Prios, 4096*(7+next(3)))
		}
		if next(12) == 0 {
			b.Region = api.Region{Name: "hedge", Revision: 7 + next(2), Ways: []api.Way{{VID: 5, Tree: 2}, {VID: 9, Tree: 1 + next(2)}}}
		}
		n.Bridges = append(n.Bridges, b)
	}
	most, up := next(41), 2+next(20)
	for range 200 {
		k := link(next(len(n.Bridges)), 1+next(30), next(len(n.Bridges)), 1+next(30), 1+next(4))
		k.Up = next(up) > 0
		if len(n.Links) == most {
			break
		}
		n.Links = append(n.Links, k)
		if knownWrong(n).Err != api.OK {
			n.Links = n.Links[:len(n.Links)-1]
		}
	}
	return n
}

func wantWrong(t *testing.T, what string, n api.Net, err api.Errno, at int) {
	t.Helper()
	want := api.Fault{Err: err, At: at}
	if got := Wrong(n); got != want {
		t.Errorf("%s: %v is wrong, not %v", what, got, want)
	}
	if err == api.OK {
		return
	}
	for _, tree := range []int{0, 15, -1, 16} {
		if l, f := Plan(n, tree); f != want || l != nil {
			t.Errorf("%s: plan of tree %d: %v and %v come, not %v", what, tree, l, f, want)
		}
	}
}

// alike says whether places are the same, where nil and empty are.
func alike(a, b api.Place) bool {
	return a.Vec == b.Vec && a.RootPort == b.RootPort && slices.Equal(a.Ports, b.Ports) && slices.Equal(a.Roles, b.Roles)
}

func wantPlan(t *testing.T, what string, n api.Net, tree int, want []api.Place) {
	t.Helper()
	got, f := Plan(n, tree)
	if f != (api.Fault{}) {
		t.Errorf("%s: %v comes on tree %d", what, f, tree)
		return
	}
	if !slices.EqualFunc(got, want, alike) {
		t.Errorf("%s: on tree %d\n%+v come, not\n%+v, of %+v", what, tree, got, want, n)
	}
}

// root is how a bridge stands that is the root itself.
func root(id uint64, ports, roles []int) api.Place {
	return api.Place{Vec: api.Vec{Root: id, Bridge: id}, RootPort: -1, Ports: ports, Roles: roles}
}

func place(root uint64, cost int, id uint64, rootPort int, ports, roles []int) api.Place {
	return api.Place{Vec: api.Vec{Root: root, Cost: cost, Bridge: id}, RootPort: rootPort, Ports: ports, Roles: roles}
}

// F1: nothing is wrong with these.
func TestWrongOfGoodNets(t *testing.T) {
	for what, n := range goodNets() {
		wantWrong(t, what, n, api.OK, 0)
	}
}

// F1: twelve bridges and forty links, and no more; that is told ahead of all else, at 0.
func TestWrongMany(t *testing.T) {
	n := full()
	n.Bridges = append(n.Bridges, bridge(77))
	wantWrong(t, "13 bridges", n, api.ErrMany, 0)
	n = full()
	n.Links = append(n.Links, link(0, 15, 1, 15, 5))
	wantWrong(t, "41 links", n, api.ErrMany, 0)
	n.Links = n.Links[1:]
	wantWrong(t, "40 links", n, api.OK, 0)
	wantWrong(t, "13 wrong bridges", api.Net{Bridges: make([]api.Bridge, 13)}, api.ErrMany, 0)
	wantWrong(t, "12 wrong bridges", api.Net{Bridges: make([]api.Bridge, 12)}, api.ErrName, 0)
	wantWrong(t, "41 wrong links", api.Net{Links: make([]api.Link, 41)}, api.ErrMany, 0)
	wantWrong(t, "40 wrong links", api.Net{Links: make([]api.Link, 40)}, api.ErrNone, 0)
	wantWrong(t, "41 links, of a wrong bridge", api.Net{Bridges: make([]api.Bridge, 1), Links: make([]api.Link, 41)}, api.ErrMany, 0)
}

// F1: each thing that a bridge must have, at each bridge.
func TestWrongBridges(t *testing.T) {
	for _, c := range []struct {
		what   string
		change func(*api.Bridge)
		err    api.Errno
	}{
		{"address 0", func(b *api.Bridge) { b.Addr = 0 }, api.OK},
		{"greatest address", func(b *api.Bridge) { b.Addr = 1<<48 - 1 }, api.OK},
		{"address above", func(b *api.Bridge) { b.Addr = 1 << 48 }, api.ErrRange},
		{"address far above", func(b *api.Bridge) { b.Addr = math.MaxUint64 }, api.ErrRange},
		{"no priorities", func(b *api.Bridge) { b.Prios = nil }, api.OK},
		{"16 priorities", func(b *api.Bridge) { b.Prios = make([]int, 16) }, api.OK},
		{"17 priorities", func(b *api.Bridge) { b.Prios = make([]int, 17) }, api.ErrMany},
		{"no name", func(b *api.Bridge) { b.Region.Name = "" }, api.ErrName},
		{"long name", func(b *api.Bridge) { b.Region.Name = strings.Repeat("x", 33) }, api.ErrName},
		{"revision below", func(b *api.Bridge) { b.Region.Revision = -1 }, api.ErrRange},
		{"revision above", func(b *api.Bridge) { b.Region.Revision = 65536 }, api.ErrRange},
		{"way above", func(b *api.Bridge) { b.Region.Ways = []api.Way{{VID: 4095, Tree: 1}} }, api.ErrRange},
		{"tree 0", func(b *api.Bridge) { b.Region.Ways = []api.Way{{VID: 1, Tree: 0}} }, api.ErrRange},
		{"a way twice", func(b *api.Bridge) { b.Region.Ways = []api.Way{{VID: 1, Tree: 1}, {VID: 1, Tree: 1}} }, api.ErrForm},
		{"another region", func(b *api.Bridge) { b.Region = api.Region{Name: " "} }, api.OK},
	} {
		for i := range ring().Bridges {
			n := ring()
			c.change(&n.Bridges[i])
			at := i
			if c.err == api.OK {
				at = 0
			}
			wantWrong(t, c.what, n, c.err, at)
		}
	}
}

// F1: priorities at and beside the ends and the steps, on each tree.
func TestWrongPriorities(t *testing.T) {
	for priority, err := range map[int]api.Errno{
		0: api.OK, 4096: api.OK, 8192: api.OK, 32768: api.OK, 61440: api.OK,
		1: api.ErrRange, 2048: api.ErrRange, 4095: api.ErrRange, 4097: api.ErrRange, 61439: api.ErrRange, 61441: api.ErrRange,
		65535: api.ErrRange, 65536: api.ErrRange, -1: api.ErrRange, -4096: api.ErrRange, math.MinInt: api.ErrRange, math.MaxInt: api.ErrRange, 1 << 62: api.ErrRange,
	} {
		for tree := range 16 {
			n := ring()
			n.Bridges[2].Prios = make([]int, 16)
			n.Bridges[2].Prios[tree] = priority
			at := 2
			if err == api.OK {
				at = 0
			}
			wantWrong(t, "priority", n, err, at)
		}
	}
}

// F1: an address that one ahead has, wherever it stands; a priority does not tell two bridges from each other.
func TestWrongTwins(t *testing.T) {
	for later := range 4 {
		for ahead := range later {
			n := ring()
			n.Bridges[later].Addr = n.Bridges[ahead].Addr
			wantWrong(t, "twins", n, api.ErrName, later)
			n.Bridges[later].Region.Name = "other"
			n.Bridges[later].Prios = []int{0, 0, 0}
			wantWrong(t, "unlike twins", n, api.ErrName, later)
		}
	}
}

// F1: each thing that a link must have, at each link, up or not.
func TestWrongLinks(t *testing.T) {
	for _, c := range []struct {
		what   string
		change func(*api.Link)
		err    api.Errno
	}{
		{"A below", func(k *api.Link) { k.A = -1 }, api.ErrNone},
		{"A above", func(k *api.Link) { k.A = 4 }, api.ErrNone},
		{"A least", func(k *api.Link) { k.A = math.MinInt }, api.ErrNone},
		{"A greatest", func(k *api.Link) { k.A = math.MaxInt }, api.ErrNone},
		{"B below", func(k *api.Link) { k.B = -1 }, api.ErrNone},
		{"B above", func(k *api.Link) { k.B = 4 }, api.ErrNone},
		{"B least", func(k *api.Link) { k.B = math.MinInt }, api.ErrNone},
		{"B greatest", func(k *api.Link) { k.B = math.MaxInt }, api.ErrNone},
		{"A is B", func(k *api.Link) { k.A = k.B }, api.ErrFit},
		{"B is A", func(k *api.Link) { k.B = k.A }, api.ErrFit},
		{"port A 0", func(k *api.Link) { k.PortA = 0 }, api.ErrRange},
		{"port A 1", func(k *api.Link) { k.PortA = 1 }, api.OK},
		{"port A 30", func(k *api.Link) { k.PortA = 30 }, api.OK},
		{"port A 31", func(k *api.Link) { k.PortA = 31 }, api.ErrRange},
		{"port A below 0", func(k *api.Link) { k.PortA = math.MinInt }, api.ErrRange},
		{"port B 0", func(k *api.Link) { k.PortB = 0 }, api.ErrRange},
		{"port B 1", func(k *api.Link) { k.PortB = 1 }, api.OK},
		{"port B 30", func(k *api.Link) { k.PortB = 30 }, api.OK},
		{"port B 31", func(k *api.Link) { k.PortB = 31 }, api.ErrRange},
		{"port B far above", func(k *api.Link) { k.PortB = math.MaxInt }, api.ErrRange},
		{"cost 0", func(k *api.Link) { k.Cost = 0 }, api.ErrRange},
		{"cost 1", func(k *api.Link) { k.Cost = 1 }, api.OK},
		{"cost 200000", func(k *api.Link) { k.Cost = 200000 }, api.OK},
		{"cost 200001", func(k *api.Link) { k.Cost = 200001 }, api.ErrRange},
		{"cost below 0", func(k *api.Link) { k.Cost = -1 }, api.ErrRange},
		{"cost far above", func(k *api.Link) { k.Cost = math.MaxInt }, api.ErrRange},
		{"both ends have the same port's number", func(k *api.Link) { k.PortA, k.PortB = 11, 11 }, api.OK},
	} {
		for i := range ring().Links {
			for _, up := range []bool{true, false} {
				n := ring()
				n.Links[i].Up = up
				c.change(&n.Links[i])
				at := i
				if c.err == api.OK {
					at = 0
				}
				wantWrong(t, c.what, n, c.err, at)
			}
		}
	}
	wantWrong(t, "no bridges", api.Net{Links: []api.Link{link(0, 1, 0, 1, 5)}}, api.ErrNone, 0)
}

// F1: an end that a link ahead has, whichever end of either it is, and whether they are up or not.
func TestWrongEnds(t *testing.T) {
	swapped := func(k api.Link) api.Link {
		return api.Link{A: k.B, PortA: k.PortB, B: k.A, PortB: k.PortA, Cost: k.Cost, Up: !k.Up}
	}
	old, twin := link(0, 11, 1, 12, 5), link(0, 11, 2, 13, 6)
	for _, a := range []api.Link{old, swapped(old)} {
		for _, b := range []api.Link{twin, swapped(twin)} {
			n := ring()
			n.Links = append(n.Links, a, b)
			wantWrong(t, "side by side", n, api.ErrName, 6)
			n.Links = slices.Concat([]api.Link{a}, ring().Links, []api.Link{b})
			wantWrong(t, "first and last", n, api.ErrName, 6)
			n.Links = slices.Concat([]api.Link{b}, ring().Links, []api.Link{a})
			wantWrong(t, "last and first", n, api.ErrName, 6)
		}
	}
	n := ring()
	n.Links = append(n.Links, n.Links[0])
	wantWrong(t, "the same link twice", n, api.ErrName, 5)
	n.Links[5] = link(1, 2+1, 0, 9, 5)
	wantWrong(t, "another bridge's end", n, api.ErrName, 5)
	n.Links[5] = link(2, 3, 0, 9, 5)
	wantWrong(t, "the same port of another bridge", n, api.OK, 0)
}

// F1, Z4: of several faults of a bridge the first one that is named.
func TestWrongBridgeInOrder(t *testing.T) {
	n := ring()
	b := &n.Bridges[2]
	*b = api.Bridge{Addr: n.Bridges[0].Addr, Prios: append(make([]int, 16), 5), Region: api.Region{}}
	wantWrong(t, "priorities ahead of region and name", n, api.ErrMany, 2)
	b.Addr = 1 << 48
	wantWrong(t, "address ahead of priorities", n, api.ErrRange, 2)
	b.Addr, b.Prios = n.Bridges[0].Addr, []int{5}
	wantWrong(t, "priority ahead of region and name", n, api.ErrRange, 2)
	b.Prios, b.Region = nil, api.Region{Name: "x", Revision: -1}
	wantWrong(t, "region ahead of name", n, api.ErrRange, 2)
	b.Region.Revision = 0
	wantWrong(t, "name at last", n, api.ErrName, 2)
}

// F1, Z4: of several faults of a link the first one that is named.
func TestWrongLinkInOrder(t *testing.T) {
	n := ring()
	k := &n.Links[3]
	*k = link(9, 0, 9, 0, 0)
	wantWrong(t, "bridge ahead of all", n, api.ErrNone, 3)
	k.A, k.B = 0, 0
	wantWrong(t, "same ahead of numbers", n, api.ErrFit, 3)
	*k = link(0, 2, 1, 3, 0)
	wantWrong(t, "numbers ahead of ends", n, api.ErrRange, 3)
	k.Cost = 5
	wantWrong(t, "ends at last", n, api.ErrName, 3)
}

// F1: all that is wrong with one bridge or link is told ahead of the next one, and bridges ahead of links.
func TestWrongOneByOne(t *testing.T) {
	n := ring()
	n.Links[1] = link(9, 0, 9, 0, 0)
	wantWrong(t, "link", n, api.ErrNone, 1)
	n.Links[0].Cost = 0
	wantWrong(t, "link ahead", n, api.ErrRange, 0)
	n.Bridges[3].Addr = 1 << 48
	wantWrong(t, "bridge ahead of links", n, api.ErrRange, 3)
	n.Bridges[2].Region.Name = ""
	wantWrong(t, "region of a bridge ahead", n, api.ErrName, 2)
	n.Bridges[1].Addr = n.Bridges[0].Addr
	wantWrong(t, "name of a bridge ahead", n, api.ErrName, 1)
	n = ring()
	n.Links[1] = n.Links[0]
	n.Links[2] = link(9, 0, 9, 0, 0)
	wantWrong(t, "end of a link ahead", n, api.ErrName, 1)
}

// F1 against a reckoning of its own, of nets that have been changed here and there.
func TestWrongOfMany(t *testing.T) {
	next := pick(1)
	for range 4000 {
		n := someNet(next)
		for range next(4) {
			spoil(&n, next)
		}
		want := knownWrong(n)
		wantWrong(t, "spoiled", n, want.Err, want.At)
	}
}

// spoil puts something into a net that may be wrong there.
func spoil(n *api.Net, next func(int) int) {
	odd := []int{-1, 0, 1, 5, 12, 30, 31, 4096, 61440, 65536, 200000, 200001, math.MinInt, math.MaxInt}
	some := odd[next(len(odd))]
	b := &n.Bridges[next(len(n.Bridges))]
	if len(n.Links) == 0 {
		n.Links = append(n.Links, api.Link{})
	}
	k := &n.Links[next(len(n.Links))]
	switch next(11) {
	case 0:
		b.Addr = uint64(some)
	case 1:
		b.Addr = n.Bridges[next(len(n.Bridges))].Addr
	case 2:
		b.Prios = append(b.Prios, some)
	case 3:
		b.Prios = make([]int, 15+next(3))
	case 4:
		b.Region.Revision = some
	case 5:
		b.Region.Ways = append(slices.Clone(b.Region.Ways), api.Way{VID: some, Tree: 1})
	case 6:
		k.A = next(len(n.Bridges) + 1)
	case 7:
		k.B = next(len(n.Bridges)+1) - 1
	case 8:
		k.PortA = some
	case 9:
		k.PortB = 1 + next(30)
	case 10:
		k.Cost = some
	}
}

// F2: priority times 2^48, and address; 32768 where there is no priority, which a priority of 0 is.
func TestIdent(t *testing.T) {
	rising := make([]int, 16)
	for i := range rising {
		rising[i] = 4096 * (15 - i)
	}
	for _, addr := range []uint64{0, 1, 0xA0B0C0D0E0F0, api.MaxAddr} {
		for tree := range 16 {
			for have := range 17 {
				want := plain(addr)
				if tree < have {
					want = uint64(15-tree)<<60 + addr
				}
				if got := Ident(bridge(addr, rising[:have]...), tree); got != want {
					t.Errorf("address %x, %d priorities, tree %d: %x comes, not %x", addr, have, tree, got, want)
				}
			}
		}
	}
	b := api.Bridge{Addr: 5, Prios: []int{4096}}
	if Ident(b, 0) != 1152921504606846981 || Ident(b, 1) != 9223372036854775813 {
		t.Errorf("%d and %d come", Ident(b, 0), Ident(b, 1))
	}
	if got := Ident(bridge(api.MaxAddr, 61440), 0); got != 0xF000_FFFF_FFFF_FFFF {
		t.Errorf("%x comes of the greatest", got)
	}
}

// F2: a region is nothing that an identity hangs on.
func TestIdentIsOfNoRegion(t *testing.T) {
	b := api.Bridge{Addr: 5, Prios: []int{8192}}
	if a := with(b, func(b *api.Bridge) { b.Region = someRegion() }); Ident(a, 0) != Ident(b, 0) || Ident(a, 3) != Ident(b, 3) {
		t.Error("it hangs on the region")
	}
}

// F3, Z4: what is wrong with the net, then with the tree; nothing stands beside a fault.
func TestPlanFaults(t *testing.T) {
	want := api.Fault{Err: api.ErrRange}
	for what, n := range goodNets() {
		for _, tree := range []int{-1, 16, math.MinInt, math.MaxInt, 255, 256} {
			if l, f := Plan(n, tree); f != want || l != nil {
				t.Errorf("%s, tree %d: %v and %v come", what, tree, l, f)
			}
		}
		for tree := range 16 {
			if l, f := Plan(n, tree); f != (api.Fault{}) || len(l) != len(n.Bridges) {
				t.Errorf("%s, tree %d: %d and %v come", what, tree, len(l), f)
			}
		}
	}
}

// F3: none, one alone, and the document's two: the one with the less address is the root, whichever it is.
func TestPlanOfFew(t *testing.T) {
	wantPlan(t, "none", api.Net{}, 0, nil)
	wantPlan(t, "one", api.Net{Bridges: []api.Bridge{bridge(7, 0)}}, 0, []api.Place{root(7, nil, nil)})
	wantPlan(t, "one", api.Net{Bridges: []api.Bridge{bridge(7, 0)}}, 15, []api.Place{root(plain(7), nil, nil)})
	n := api.Net{Bridges: []api.Bridge{bridge(8), bridge(9)}, Links: []api.Link{link(0, 4, 1, 3, 6)}}
	wantPlan(t, "two", n, 0, []api.Place{
		root(plain(8), []int{4}, []int{api.RoleDesignated}),
		place(plain(8), 6, plain(9), 3, []int{3}, []int{api.RoleRoot}),
	})
	n.Bridges[0], n.Bridges[1] = n.Bridges[1], n.Bridges[0]
	wantPlan(t, "two, the other way round", n, 0, []api.Place{
		place(plain(8), 6, plain(9), 4, []int{4}, []int{api.RoleRoot}),
		root(plain(8), []int{3}, []int{api.RoleDesignated}),
	})
	n.Links = nil
	wantPlan(t, "two, without a link", n, 0, []api.Place{root(plain(9), nil, nil), root(plain(8), nil, nil)})
}

// F3: a ring with a link across, reckoned by hand; on each tree the priorities of that tree count.
func TestPlanOfRing(t *testing.T) {
	const r, d, b = api.RoleRoot, api.RoleDesignated, api.RoleBlocked
	ports := [][]int{{2, 8}, {2, 3, 5}, {4, 7}, {2, 6, 9}}
	first := uint64(4096)<<48 + 30
	wantPlan(t, "ring", ring(), 0, []api.Place{
		place(first, 10, plain(40), 2, ports[0], []int{r, d}),
		root(first, ports[1], []int{d, d, d}),
		place(first, 20, plain(20), 4, ports[2], []int{r, d}),
		place(first, 25, plain(50), 2, ports[3], []int{r, b, b}),
	})
	second := uint64(4096)<<48 + 20
	wantPlan(t, "ring", ring(), 1, []api.Place{
		place(second, 30, uint64(8192)<<48+40, 2, ports[0], []int{r, d}),
		place(second, 20, plain(30), 5, ports[1], []int{d, d, r}),
		root(second, ports[2], []int{d, d}),
		place(second, 30, plain(50), 6, ports[3], []int{b, r, b}),
	})
	wantPlan(t, "ring", ring(), 2, []api.Place{
		place(plain(30), 10, plain(40), 2, ports[0], []int{r, d}),
		root(plain(30), ports[1], []int{d, d, d}),
		place(plain(30), 20, uint64(61440)<<48+20, 4, ports[2], []int{r, d}),
		place(plain(30), 25, plain(50), 2, ports[3], []int{r, b, b}),
	})
}

// F3: the cheapest way is taken, not the one over the fewest links; what is dear is blocked at its far end.
func TestPlanCheapest(t *testing.T) {
	n := chain(12, true)
	n.Links = append(n.Links, link(0, 30, 11, 30, 661))
	places, _ := Plan(n, 0)
	if p := places[11]; p.Vec.Cost != 660 || p.RootPort != 2 || !slices.Equal(p.Roles, []int{api.RoleRoot, api.RoleBlocked}) {
		t.Errorf("%+v comes", p)
	}
	n.Links[11].Cost = 659
	places, _ = Plan(n, 0)
	if p := places[11]; p.Vec.Cost != 659 || p.RootPort != 30 || !slices.Equal(p.Roles, []int{api.RoleBlocked, api.RoleRoot}) {
		t.Errorf("%+v comes", p)
	}
}

// F3: as far as a net goes, whichever way the bridges are numbered.
func TestPlanOfChains(t *testing.T) {
	for size := 1; size <= 12; size++ {
		for _, rises := range []bool{true, false} {
			n := chain(size, rises)
			places, f := Plan(n, 3)
			if f.Err != api.OK || len(places) != size {
				t.Fatalf("%v comes, and %d", f, len(places))
			}
			for i, p := range places {
				head, rootPort, cost := plain(100), 2, 5*i*(i+1)
				if !rises {
					head, rootPort, cost = plain(uint64(101-size)), 1, 5*size*(size-1)-5*i*(i+1)
				}
				if cost == 0 {
					rootPort = -1
				}
				if p.Vec.Root != head || p.Vec.Cost != cost || p.RootPort != rootPort {
					t.Errorf("bridge %d of %d: %+v comes", i, size, p)
				}
			}
		}
	}
	dear := chain(12, true)
	for i := range dear.Links {
		dear.Links[i].Cost = api.MaxStep
	}
	if places, _ := Plan(dear, 0); places[11].Vec.Cost != 2200000 {
		t.Errorf("%+v comes of dear links", places[11])
	}
}

// F3: of ways that cost the same, the one over the bridge of the least identity, a priority ahead of an address, whatever the ports are.
func TestPlanRootPortByBridge(t *testing.T) {
	n := api.Net{
		Bridges: []api.Bridge{bridge(1, 0), bridge(5, 8192), bridge(6, 4096), bridge(9)},
		Links:   []api.Link{link(0, 1, 1, 1, 10), link(0, 2, 2, 1, 20), link(1, 2, 3, 3, 20), link(2, 30, 3, 4, 10)},
	}
	for tree, want := range []int{4, 3} {
		places, _ := Plan(n, tree)
		if p := places[3]; p.Vec.Cost != 30 || p.RootPort != want {
			t.Errorf("tree %d: %+v comes, not root port %d", tree, p, want)
		}
	}
	n.Links[3].Cost = 11
	if places, _ := Plan(n, 0); places[3].RootPort != 3 {
		t.Errorf("dearer by one: %+v comes", places[3])
	}
}

// F3: of links to one bridge that cost the same, the one of the least port there, whatever its own port is; the others are blocked.
func TestPlanRootPortByOtherPort(t *testing.T) {
	n := api.Net{
		Bridges: []api.Bridge{bridge(9), bridge(1)},
		Links:   []api.Link{link(0, 1, 1, 7, 5), link(1, 3, 0, 8, 5), link(0, 4, 1, 6, 5), link(1, 2, 0, 2, 6)},
	}
	wantPlan(t, "four links", n, 0, []api.Place{
		place(plain(1), 5, plain(9), 8, []int{1, 2, 4, 8}, []int{api.RoleBlocked, api.RoleBlocked, api.RoleBlocked, api.RoleRoot}),
		root(plain(1), []int{2, 3, 6, 7}, []int{api.RoleDesignated, api.RoleDesignated, api.RoleDesignated, api.RoleDesignated}),
	})
}

// F3: who speaks on a link that leads to no root: the one who is less far; of two that are as far, the lesser one.
func TestPlanRolesOfSideLinks(t *testing.T) {
	n := api.Net{
		Bridges: []api.Bridge{bridge(1), bridge(6), bridge(5)},
		Links:   []api.Link{link(0, 1, 1, 1, 10), link(0, 2, 2, 1, 10), link(1, 2, 2, 30, 15)},
	}
	for cost, want := range map[int]int{9: api.RoleDesignated, 10: api.RoleBlocked, 11: api.RoleBlocked} {
		n.Links[0].Cost = cost
		places, _ := Plan(n, 0)
		if one, two := places[1].Roles[1], places[2].Roles[1]; one != want || one+two != api.RoleDesignated+api.RoleBlocked {
			t.Errorf("cost %d: roles %d and %d come", cost, one, two)
		}
	}
}

// F2, F3: over a link that is not live nothing is reached; its ports stand there, without a role.
func TestPlanOverDeadLinks(t *testing.T) {
	dead := []api.Place{root(plain(8), []int{4}, []int{api.RoleNone}), root(plain(9), []int{3}, []int{api.RoleNone})}
	live := []api.Place{root(plain(8), []int{4}, []int{api.RoleDesignated}), place(plain(8), 6, plain(9), 3, []int{3}, []int{api.RoleRoot})}
	for what, c := range map[string]struct {
		change func(*api.Net)
		want   []api.Place
	}{
		"live":                 {func(n *api.Net) {}, live},
		"not up":               {func(n *api.Net) { n.Links[0].Up = false }, dead},
		"other name":           {func(n *api.Net) { n.Bridges[0].Region.Name = "Hedge" }, dead},
		"longer name":          {func(n *api.Net) { n.Bridges[1].Region.Name = "hedge " }, dead},
		"other revision":       {func(n *api.Net) { n.Bridges[1].Region.Revision = 8 }, dead},
		"no ways":              {func(n *api.Net) { n.Bridges[0].Region.Ways = nil }, dead},
		"one way's other tree": {func(n *api.Net) { n.Bridges[1].Region.Ways[1].Tree = 3 }, dead},
		"neither has ways":     {func(n *api.Net) { n.Bridges[0].Region.Ways, n.Bridges[1].Region.Ways = nil, []api.Way{} }, live},
		"both wrong":           {func(n *api.Net) { n.Links[0].Up, n.Bridges[1].Region.Revision = false, 8 }, dead},
	} {
		n := api.Net{Bridges: []api.Bridge{bridge(8), bridge(9)}, Links: []api.Link{link(0, 4, 1, 3, 6)}}
		c.change(&n)
		for tree := range 16 {
			wantPlan(t, what, n, tree, c.want)
		}
	}
}

// F3: each island has a root of its own, and one between that is of another region parts what is beside it.
func TestPlanOfIslands(t *testing.T) {
	n := chain(7, true)
	n.Bridges[3].Region.Name = "other"
	places, _ := Plan(n, 0)
	var roots []uint64
	for _, p := range places {
		roots = append(roots, p.Vec.Root-plain(0))
	}
	if want := []uint64{100, 100, 100, 103, 104, 104, 104}; !slices.Equal(roots, want) {
		t.Errorf("roots %v come, not %v", roots, want)
	}
	if !slices.Equal(places[3].Roles, []int{api.RoleNone, api.RoleNone}) || !slices.Equal(places[4].Roles, []int{api.RoleDesignated, api.RoleNone}) {
		t.Errorf("%+v and %+v come", places[3], places[4])
	}
}

// F3 against a reckoning of its own.
func TestPlanOfMany(t *testing.T) {
	for what, n := range goodNets() {
		for tree := range 16 {
			wantPlan(t, what, n, tree, knownPlan(n, tree))
		}
	}
	next := pick(2)
	for range 2000 {
		n := someNet(next)
		tree := next(5)
		wantPlan(t, "some", n, tree, knownPlan(n, tree))
	}
}

// F3: each live link has one end that speaks; those whose other end is a root port are a tree on each island.
func TestPlanIsSpanningTree(t *testing.T) {
	next := pick(3)
	for range 500 {
		n := someNet(next)
		places, _ := Plan(n, 0)
		role := func(bridge, port int) int {
			return places[bridge].Roles[slices.Index(places[bridge].Ports, port)]
		}
		kept := api.Net{Bridges: n.Bridges}
		for _, k := range n.Links {
			a, b := role(k.A, k.PortA), role(k.B, k.PortB)
			if knownLive(n, k) != (a == api.RoleDesignated || b == api.RoleDesignated) || a == b && a != api.RoleNone {
				t.Errorf("%+v has roles %d and %d", k, a, b)
			}
			if a == api.RoleRoot || b == api.RoleRoot {
				kept.Links = append(kept.Links, k)
			}
		}
		roots := 0
		for _, p := range places {
			if p.RootPort < 0 {
				roots++
			}
		}
		if len(kept.Links)+roots != len(n.Bridges) {
			t.Errorf("%d links are kept of %d bridges with %d roots", len(kept.Links), len(n.Bridges), roots)
		}
		whole, part := knownCosts(n), knownCosts(kept)
		for i, p := range places {
			for j, q := range places {
				if (whole[i][j] < 0) != (part[i][j] < 0) || q.Vec.Bridge == p.Vec.Root && part[i][j] != p.Vec.Cost {
					t.Errorf("%d and %d: %d and %d apart", i, j, whole[i][j], part[i][j])
				}
			}
		}
	}
}

// F3: how links are numbered, and which end stands first, does not count.
func TestPlanHangsOnNoOrderOfLinks(t *testing.T) {
	next := pick(4)
	for range 200 {
		n := someNet(next)
		want, _ := Plan(n, 1)
		slices.Reverse(n.Links)
		for i, k := range n.Links {
			if next(2) == 0 {
				n.Links[i] = api.Link{A: k.B, PortA: k.PortB, B: k.A, PortB: k.PortA, Cost: k.Cost, Up: k.Up}
			}
		}
		wantPlan(t, "turned", n, 1, want)
	}
}

// Z3: nil and empty are the same.
func TestNilIsEmpty(t *testing.T) {
	wantWrong(t, "empty", api.Net{Bridges: []api.Bridge{}, Links: []api.Link{}}, api.OK, 0)
	wantPlan(t, "empty", api.Net{Bridges: []api.Bridge{}, Links: []api.Link{}}, 0, nil)
	if a, b := bridge(5), with(bridge(5), func(b *api.Bridge) { b.Prios = []int{} }); Ident(a, 0) != Ident(b, 0) {
		t.Errorf("%d and %d come", Ident(a, 0), Ident(b, 0))
	}
	n := chain(3, true)
	for i := range n.Bridges {
		n.Bridges[i].Prios, n.Bridges[i].Region.Ways = nil, nil
	}
	want, _ := Plan(n, 0)
	for i := range n.Bridges {
		n.Bridges[i].Prios, n.Bridges[i].Region.Ways = []int{}, []api.Way{}
		wantWrong(t, "empty lists", n, api.OK, 0)
		wantPlan(t, "empty lists", n, 0, want)
	}
	for what, links := range map[string][]api.Link{"nil": nil, "empty": {}} {
		wantPlan(t, what, api.Net{Bridges: n.Bridges[:1], Links: links}, 0, []api.Place{root(plain(100), nil, nil)})
	}
}

// spaced is l, with x in the spare room behind it.
func spaced[T any](l []T, x T) []T {
	room := append(slices.Clone(l), x, x, x)
	return room[:len(l)]
}

// spacedNet is n, with wrong things in the spare room behind each of its lists.
func spacedNet(n api.Net) api.Net {
	n.Bridges = spaced(n.Bridges, api.Bridge{Addr: 1 << 50})
	for i := range n.Bridges {
		b := &n.Bridges[i]
		b.Prios, b.Region.Ways = spaced(b.Prios, 5), spaced(b.Region.Ways, api.Way{VID: 5, Tree: 99})
	}
	n.Links = spaced(n.Links, api.Link{A: 77})
	return n
}

// deep is a copy of n with all spare room, in memory of its own.
func deep(n api.Net) api.Net {
	n.Bridges = slices.Clone(n.Bridges[:cap(n.Bridges)])
	for i := range n.Bridges {
		b := &n.Bridges[i]
		b.Prios, b.Region.Ways = slices.Clone(b.Prios[:cap(b.Prios)]), slices.Clone(b.Region.Ways[:cap(b.Region.Ways)])
	}
	n.Links = slices.Clone(n.Links[:cap(n.Links)])
	return n
}

// Z2: lists and their spare room are neither changed nor looked at, of good nets and of wrong ones.
func TestArgumentsAreOnlyRead(t *testing.T) {
	nets := goodNets()
	nets["wrong bridge"] = with(ring(), func(n *api.Net) { n.Bridges[3].Addr = 20 })
	nets["wrong link"] = with(ring(), func(n *api.Net) { n.Links[4].PortA = 5 })
	for what, n := range nets {
		wrong := Wrong(n)
		want, _ := Plan(n, 1)
		room := spacedNet(n)
		before := deep(room)
		wantWrong(t, what, room, wrong.Err, wrong.At)
		if wrong.Err == api.OK {
			wantPlan(t, what, room, 1, want)
		}
		for i, b := range room.Bridges {
			if got := Ident(b, len(b.Prios)); got != plain(b.Addr) {
				t.Errorf("%s: bridge %d: %x comes of spare room", what, i, got)
			}
		}
		if after := deep(room); !reflect.DeepEqual(before, after) {
			t.Errorf("%s: it was changed", what)
		}
	}
}

// Z2: what is answered stays, whatever becomes of what was handed in.
func TestNothingIsKept(t *testing.T) {
	n := ring()
	got, _ := Plan(n, 1)
	want := knownPlan(ring(), 1)
	for i := range n.Bridges {
		b := &n.Bridges[i]
		clear(b.Prios)
		clear(b.Region.Ways)
		*b = api.Bridge{}
	}
	clear(n.Links)
	if !slices.EqualFunc(got, want, alike) {
		t.Errorf("%+v has become of %+v", got, want)
	}
}

// fill writes over a list and its spare room.
func fill[T any](l []T, x T) {
	l = l[:cap(l)]
	for i := range l {
		l[i] = x
	}
}

// Z2: each list of an answer is the caller's, its spare room too: none lies in another one, nor in the next answer.
func TestAnswersShareNothing(t *testing.T) {
	for what, n := range goodNets() {
		want := knownPlan(n, 2)
		for i := range want {
			for _, roles := range []bool{false, true} {
				got, _ := Plan(n, 2)
				again, _ := Plan(n, 2)
				if roles {
					fill(got[i].Roles, -7)
					got[i].Roles = want[i].Roles
				} else {
					fill(got[i].Ports, -7)
					got[i].Ports = want[i].Ports
				}
				if !slices.EqualFunc(got, want, alike) || !slices.EqualFunc(again, want, alike) {
					t.Errorf("%s: what was done to bridge %d shows elsewhere", what, i)
				}
				fill(got, api.Place{})
				wantPlan(t, what, n, 2, want)
			}
		}
	}
}

// Z1: calls at the same time do not see each other.
func TestManyAskAtOnce(t *testing.T) {
	n := ring()
	var all sync.WaitGroup
	for i := range 8 {
		all.Go(func() {
			for tree := range 8 {
				wantWrong(t, "at once", n, api.OK, 0)
				wantPlan(t, "at once", n, (tree+i)%16, knownPlan(n, (tree+i)%16))
			}
		})
	}
	all.Wait()
}

// Z1: nothing panics, of trees and bridges that are none either.
func TestNothingPanics(t *testing.T) {
	odd := []int{math.MinInt, -1, 0, 15, 16, 17, math.MaxInt}
	for _, tree := range odd {
		for _, prios := range [][]int{nil, {}, {math.MinInt}, odd, make([]int, 40)} {
			for _, addr := range []uint64{0, 1 << 48, math.MaxUint64} {
				b := api.Bridge{Addr: addr, Prios: prios}
				Ident(b, tree)
				Plan(api.Net{Bridges: []api.Bridge{b}}, tree)
			}
		}
		for _, a := range odd {
			for _, b := range odd {
				n := api.Net{Bridges: []api.Bridge{bridge(1), bridge(2)}, Links: []api.Link{link(a, b, b, a, tree)}}
				Plan(n, tree)
				Plan(api.Net{Links: n.Links}, tree)
			}
		}
	}
}

// FuzzPlan: nothing panics; what is wrong, and else what comes, is as it is reckoned.
func FuzzPlan(f *testing.F) {
	f.Add(uint64(1), 0, 0)
	f.Add(uint64(2), 15, 1)
	f.Add(uint64(3), -1, 9)
	f.Fuzz(func(t *testing.T, seed uint64, tree, spoils int) {
		next := pick(seed)
		n := someNet(next)
		for range spoils & 7 {
			spoil(&n, next)
		}
		want := knownWrong(n)
		wantWrong(t, "fuzz", n, want.Err, want.At)
		if want.Err == api.OK && tree >= 0 && tree <= 15 {
			wantPlan(t, "fuzz", n, tree, knownPlan(n, tree))
		}
		for _, b := range n.Bridges {
			Ident(b, tree)
		}
	})
}
