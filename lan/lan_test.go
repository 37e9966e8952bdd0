package lan

import (
	"cmp"
	"math"
	"reflect"
	"runtime"
	"slices"
	"sync"
	"testing"

	"hedgerow/api"
	"hedgerow/book"
	"hedgerow/talk"
)

// odd is one way in which what is handed to Send is wrong.
type odd struct {
	what   string
	change func(*call)
	fault  api.Fault
}

// odds stand by what they are wrong with, as J1 names it; they change the call of goodCall.
func odds() [][]odd {
	at := func(err api.Errno, at int) api.Fault { return api.Fault{Err: err, At: at} }
	return [][]odd{
		{
			{"bridges", func(c *call) { c.Net.Bridges = make([]api.Bridge, 13) }, at(api.ErrMany, 0)},
			{"links", func(c *call) { c.Net.Links = make([]api.Link, 41) }, at(api.ErrMany, 0)},
			{"an address", func(c *call) { c.Net.Bridges[2].Addr = 1 << 48 }, at(api.ErrRange, 2)},
			{"a twin", func(c *call) { c.Net.Bridges[3].Addr = 20 }, at(api.ErrName, 3)},
			{"a priority", func(c *call) { c.Net.Bridges[1].Prios = []int{5} }, at(api.ErrRange, 1)},
			{"a region", func(c *call) { c.Net.Bridges[1].Region.Name = "" }, at(api.ErrName, 1)},
			{"a region's ways", func(c *call) { c.Net.Bridges[3].Region.Ways = []api.Way{{VID: 7, Tree: 16}} }, at(api.ErrRange, 3)},
			{"a link's bridge", func(c *call) { c.Net.Links[3].B = 4 }, at(api.ErrNone, 3)},
			{"a link's bridges", func(c *call) { c.Net.Links[2].B = 2 }, at(api.ErrFit, 2)},
			{"a link's cost", func(c *call) { c.Net.Links[1].Cost = 0 }, at(api.ErrRange, 1)},
			{"a link's port", func(c *call) { c.Net.Links[1].PortB = 0 }, at(api.ErrRange, 1)},
			{"a link's end", func(c *call) { c.Net.Links[3].PortB = 1 }, at(api.ErrName, 3)},
		},
		{
			{"no trees", func(c *call) { c.Talk.Minds = nil }, at(api.ErrFit, 0)},
			{"five trees", func(c *call) { c.Talk.Minds = slices.Repeat(c.Talk.Minds[:1], 5) }, at(api.ErrFit, 0)},
			{"minds", func(c *call) { c.Talk.Minds[1] = c.Talk.Minds[1][:3] }, at(api.ErrFit, 0)},
			{"ports", func(c *call) { c.Talk.Minds[1][3].Ports[1] = 3 }, at(api.ErrFit, 0)},
			{"roles", func(c *call) { c.Talk.Minds[1][3].Roles = nil }, at(api.ErrFit, 0)},
			{"calm", func(c *call) { c.Talk.Minds[0][0].Calm = make([]int, 3) }, at(api.ErrFit, 0)},
		},
		{
			{"no books", func(c *call) { c.Books = nil }, at(api.ErrFit, 0)},
			{"too few books", func(c *call) { c.Books = c.Books[:3] }, at(api.ErrFit, 0)},
			{"too many books", func(c *call) { c.Books = append(c.Books, nil) }, at(api.ErrFit, 0)},
		},
		{
			{"no bridge, below", func(c *call) { c.From = -1 }, at(api.ErrNone, 0)},
			{"no bridge, above", func(c *call) { c.From = 4 }, at(api.ErrNone, 0)},
		},
		{
			{"way 0", func(c *call) { c.VID = 0 }, at(api.ErrRange, 0)},
			{"way 4095", func(c *call) { c.VID = 4095 }, at(api.ErrRange, 0)},
		},
		{
			{"a tag", func(c *call) { c.Frame.Tagged = true }, at(api.ErrKind, 0)},
		},
		{
			{"Dst", func(c *call) { c.Frame.Dst = 1 << 48 }, at(api.ErrRange, 0)},
			{"Src", func(c *call) { c.Frame.Src = 1 << 48 }, at(api.ErrRange, 0)},
			{"Src of many", func(c *call) { c.Frame.Src = manyBit }, at(api.ErrFit, 0)},
			{"Type", func(c *call) { c.Frame.Type = 0x05FF }, at(api.ErrKind, 0)},
			{"Type of a tag", func(c *call) { c.Frame.Type = 0x8100 }, at(api.ErrKind, 0)},
			{"Data", func(c *call) { c.Frame.Data = make([]byte, 1501) }, at(api.ErrMuch, 0)},
		},
		{
			{"a tree", func(c *call) { c.Net.Bridges[3].Region.Ways = []api.Way{{VID: 7, Tree: 2}} }, at(api.ErrMany, 0)},
			{"the first one's tree", func(c *call) { c.Net.Bridges[0].Region.Ways = []api.Way{{VID: 7, Tree: 15}} }, at(api.ErrMany, 0)},
		},
		{
			{"entries", func(c *call) { c.Books[0] = make([]api.Entry, 31) }, at(api.ErrMany, 0)},
			{"an entry", func(c *call) { c.Books[0] = []api.Entry{entry(7, 3, 1, 0), entry(7, 4, 1, 301)} }, at(api.ErrRange, 0)},
			{"entries' order", func(c *call) { c.Books[0] = []api.Entry{entry(7, 3, 1, 0), entry(7, 3, 1, 0)} }, at(api.ErrForm, 0)},
		},
	}
}

// goodCall is sent over two trees in a ring.
func goodCall(t *testing.T) call {
	c := settled(t, ring(), 2)
	return copyOf(c)
}

// J1 and Z4: what is wrong is told in turn: net, talk, books, bridge, way, tag, frame, trees; then what a bridge says that relays; and nothing beside it.
func TestFaultsInOrder(t *testing.T) {
	good := goodCall(t)
	wantSeen(t, "good", good, 1, 3, 2)
	ask := func(what string, want api.Fault, parts ...odd) {
		t.Helper()
		c := copyOf(good)
		for i := range parts { // the last one first: it may be about lists that the first one takes away
			parts[len(parts)-1-i].change(&c)
		}
		wantSend(t, what, c, answer{Fault: want})
	}
	all := odds()
	for i, group := range all {
		for _, first := range group {
			ask(first.what, first.fault, first)
			for _, behind := range all[i+1:] {
				for _, next := range behind {
					ask(first.what+" and "+next.what, first.fault, first, next)
				}
			}
		}
	}
}

// J1: as many books as bridges.
func TestBooksFit(t *testing.T) {
	for _, k := range []int{1, 2, 3, 12} {
		c := opened(t, chain(k), 1)
		for books := range 15 {
			c.Books = make([][]api.Entry, books)
			if books != k {
				wantSend(t, "books", c, faulty(api.ErrFit, 0))
			} else if a := c.send(); !a.OK || a.Fault != (api.Fault{}) || len(a.Books) != k || len(a.Seen) != k-1 {
				t.Errorf("%d bridges and books: %v comes", k, a)
			}
		}
	}
}

// J1: from each bridge, and from none that is not there.
func TestFromEachBridge(t *testing.T) {
	for _, k := range []int{1, 2, 3, 12} {
		c := opened(t, chain(k), 1)
		for from := range k {
			c.From = from
			if a := c.send(); !a.OK || len(a.Seen) != k-1 || !slices.Equal(a.Books[from], []api.Entry{entry(7, 50, 0, 0)}) {
				t.Errorf("from %d of %d: %v comes", from, k, a)
			}
		}
		for _, from := range []int{math.MinInt, -1 << 32, -1, k, k + 1, 12, 1 << 32, math.MaxInt} {
			c.From = from
			wantSend(t, "no bridge", c, faulty(api.ErrNone, 0))
		}
	}
	nothing := call{Talk: api.Talk{Minds: make([][]api.Mind, 1)}, VID: 7, Frame: plainFrame(99, 50)}
	for _, from := range []int{-1, 0, 1} {
		nothing.From = from
		wantSend(t, "no bridges", nothing, faulty(api.ErrNone, 0))
	}
}

// J1: each way from 1 to 4094, and no other one.
func TestEachWay(t *testing.T) {
	c := opened(t, two(), 4)
	for vid := 1; vid <= 4094; vid += 1 + vid%7 {
		c.VID = vid
		books := wantSeen(t, "way", c, 1)
		if want := [][]api.Entry{{entry(vid, 50, 0, 0)}, {entry(vid, 50, 3, 0)}}; !same(books, want) {
			t.Errorf("way %d: %v comes, not %v", vid, books, want)
		}
	}
	c.VID = 4094
	wantSeen(t, "the last way", c, 1)
	for _, vid := range []int{math.MinInt, -1 << 32, -4094, -1, 0, 4095, 4096, 1<<32 + 7, math.MaxInt} {
		c.VID = vid
		wantSend(t, "no way", c, faulty(api.ErrRange, 0))
	}
}

// J1: a tag is refused, whatever it says; what stands in a tag's place without one means nothing.
func TestTags(t *testing.T) {
	c := opened(t, two(), 4)
	for _, vid := range []int{math.MinInt, -1, 0, 7, 8, 4094, 4095, math.MaxInt} {
		for _, prio := range []int{-1, 0, 7, 8} {
			for _, drop := range []bool{false, true} {
				c.Frame.VID, c.Frame.Prio, c.Frame.Drop = vid, prio, drop
				c.Frame.Tagged = true
				wantSend(t, "a tag", c, faulty(api.ErrKind, 0))
				c.Frame.Tagged = false
				wantSeen(t, "no tag", c, 1)
			}
		}
	}
}

// J1: a tree that the talk has not is told of each bridge, be it far from where f comes, or out of reach.
func TestTreesThatAreNot(t *testing.T) {
	for _, k := range []int{1, 3, 12} {
		for trees := 1; trees <= 4; trees++ {
			n := chain(k)
			if k > 3 {
				n.Links[1].Up = false
			}
			for i := range k {
				for tree := 1; tree <= 15; tree++ {
					c := copyOf(opened(t, n, trees))
					c.Net.Bridges[i].Region.Ways = []api.Way{{VID: 6, Tree: 15}, {VID: 7, Tree: tree}, {VID: 8, Tree: 15}}
					want, _ := knownSend(c)
					if missing := tree >= trees; missing != (want.Fault == api.Fault{Err: api.ErrMany}) {
						t.Fatalf("%d trees, tree %d: %v is known", trees, tree, want.Fault)
					}
					wantSend(t, "trees", c, want)
				}
			}
		}
	}
	c := opened(t, two(), 1)
	for vid, want := range map[int]api.Errno{8: api.OK, 9: api.ErrMany, 10: api.OK, 11: api.ErrMany, 4093: api.OK, 4094: api.ErrMany} {
		c.VID = vid
		if got := c.send().Fault; got != (api.Fault{Err: want}) {
			t.Errorf("way %d: %v comes, not %v", vid, got, want)
		}
	}
}

// J2: a bridge's gates: its host's, where frames have no tag, and its ports', where they have one; all of one way alone.
func TestGates(t *testing.T) {
	c := opened(t, ring(), 3)
	setCalm(c.Talk, 0, 2, 1, 49)
	setCalm(c.Talk, 2, 2, 2, 0)
	want := []api.Gate{
		{Port: 0, Ways: []int{9}, Plain: 9, Open: []bool{true, true, true}},
		{Port: 1, Ways: []int{9}, Open: []bool{false, true, true}},
		{Port: 2, Ways: []int{9}, Open: []bool{true, true, false}},
	}
	if got := gatesOf(c.Talk, 2, []int{1, 2}, 9); !reflect.DeepEqual(got, want) {
		t.Errorf("%v comes, not %v", got, want)
	}
}

// J2, the document's tenth example: a host sees what another one's sends, and its own does not.
func TestTwoHosts(t *testing.T) {
	c := settled(t, two(), 1)
	books := [][]api.Entry{{entry(7, 50, 0, 0)}, {entry(7, 50, 3, 0)}}
	wantSend(t, "from 0", c, answer{hosts(c.Frame, 1), books, true, api.Fault{}})
	c.From = 1
	books = [][]api.Entry{{entry(7, 50, 4, 0)}, {entry(7, 50, 0, 0)}}
	wantSend(t, "from 1", c, answer{hosts(c.Frame, 0), books, true, api.Fault{}})
}

// J2: where there is nobody else, nobody sees it, and its bridge learns all the same.
func TestAlone(t *testing.T) {
	n := api.Net{Bridges: []api.Bridge{bridge(8)}}
	for trees := 1; trees <= 4; trees++ {
		for _, c := range []call{opened(t, n, trees), settled(t, n, trees)} {
			wantSend(t, "alone", c, answer{nil, [][]api.Entry{{entry(7, 50, 0, 0)}}, true, api.Fault{}})
		}
	}
}

// J2: what is seen is f, without a tag, and with all its data.
func TestWhatIsSeen(t *testing.T) {
	for _, size := range []int{0, 1, 46, 1499, 1500} {
		for _, typ := range []int{0x0600, ipType, 0x80FF, 0x8101, 0xFFFF} {
			c := settled(t, chain(3), 1)
			c.Frame = api.Frame{Dst: 0x0A0B0C0D0E0F, Src: 0xFEFFFFFFFFFF, Type: typ}
			for i := range size {
				c.Frame.Data = append(c.Frame.Data, byte(i*7))
			}
			want := hosts(c.Frame, 1, 2)
			c.Frame.Prio, c.Frame.Drop, c.Frame.VID = 5, true, 9
			got := c.send()
			wantAnswer(t, "seen", got, answer{want, got.Books, true, api.Fault{}})
		}
	}
}

// J2: ports let frames through behind Wait ticks, and not ahead of that; the host's gate is open from the first one on.
func TestTickByTick(t *testing.T) {
	for _, ticks := range []int{0, 1, 2, 48, 49} {
		c := settled(t, two(), 1)
		c.Talk = ticked(t, c.Net, 1, ticks)
		wantSend(t, "too early", c, answer{nil, [][]api.Entry{{entry(7, 50, 0, 0)}, nil}, true, api.Fault{}})
	}
	for _, ticks := range []int{50, 51, 90, 200} {
		c := settled(t, two(), 1)
		c.Talk = ticked(t, c.Net, 1, ticks)
		wantSeen(t, "behind Wait", c, 1)
	}
}

// J2: a port that is shut lets nothing out, and nothing in: not even the book learns.
func TestShutPorts(t *testing.T) {
	n := chain(4)
	const vid = 9 // over tree 1
	for _, row := range []struct {
		what         string
		bridge, port int
		seen         []int
		books        [][]api.Entry
	}{
		{"out of the first", 0, 2, nil, [][]api.Entry{{entry(vid, 50, 0, 0)}, nil, nil, nil}},
		{"in to the next", 1, 1, nil, [][]api.Entry{{entry(vid, 50, 0, 0)}, nil, nil, nil}},
		{"out of the next", 1, 2, []int{1}, [][]api.Entry{{entry(vid, 50, 0, 0)}, {entry(vid, 50, 1, 0)}, nil, nil}},
		{"in to the third", 2, 1, []int{1}, [][]api.Entry{{entry(vid, 50, 0, 0)}, {entry(vid, 50, 1, 0)}, nil, nil}},
		{"in to the last", 3, 1, []int{1, 2}, [][]api.Entry{{entry(vid, 50, 0, 0)}, {entry(vid, 50, 1, 0)}, {entry(vid, 50, 1, 0)}, nil}},
	} {
		c := opened(t, n, 3)
		c.VID = vid
		for _, ticks := range []int{49, 0, -1, math.MinInt} {
			setCalm(c.Talk, 1, row.bridge, row.port, ticks)
			wantSend(t, row.what, c, answer{hosts(c.Frame, row.seen...), row.books, true, api.Fault{}})
		}
		for _, ticks := range []int{50, 51, math.MaxInt} {
			setCalm(c.Talk, 1, row.bridge, row.port, ticks)
			wantSeen(t, row.what+", open", c, 1, 2, 3)
		}
		setCalm(c.Talk, 0, row.bridge, row.port, 0)
		setCalm(c.Talk, 2, row.bridge, row.port, 0)
		wantSeen(t, row.what+" on other trees", c, 1, 2, 3)
	}
}

// J2: nothing goes over a link that is not up, though its ports be open; and where it does go on, the book says that it came.
func TestLinksThatAreDown(t *testing.T) {
	for broken := range 3 {
		c := opened(t, chain(4), 1)
		c.Net = copyOf(c.Net)
		c.Net.Links[broken].Up = false
		var seen []int
		for i := range broken {
			seen = append(seen, i+1)
		}
		books := wantSeen(t, "from the first", c, seen...)
		for i, l := range books {
			if there := i <= broken; there != (len(l) == 1) {
				t.Errorf("link %d is down: bridge %d has %v", broken, i, l)
			}
		}
	}
}

// J2: a link that is up carries what leaves by it, though the regions be unlike; each bridge goes by its own region's tree.
func TestUnlikeRegions(t *testing.T) {
	n := chain(3)
	n.Bridges[1].Region = api.Region{Name: "other", Ways: []api.Way{{VID: 7, Tree: 2}}}
	c := opened(t, n, 3)
	wantSeen(t, "all open", c, 1, 2)
	for i, tree := range []int{0, 2, 0} {
		for _, port := range c.Talk.Minds[0][i].Ports {
			setCalm(c.Talk, tree, i, port, 0)
		}
		if i == 1 {
			wantSeen(t, "shut on its own tree", c)
		}
		c = opened(t, n, 3)
		for other := range 3 {
			if other == tree {
				continue
			}
			for _, port := range c.Talk.Minds[0][i].Ports {
				setCalm(c.Talk, other, i, port, 0)
			}
		}
		wantSeen(t, "shut on other trees", c, 1, 2)
	}
	c = settled(t, n, 3)
	wantSeen(t, "behind ticks no such port opens", c)
}

// J2: what has waited longest comes first: near hosts see it ahead of far ones; ports rise, whatever order links are in.
func TestFirstComeFirst(t *testing.T) {
	n := api.Net{
		Bridges: []api.Bridge{bridge(1), bridge(2), bridge(3), bridge(4), bridge(5), bridge(6), bridge(7)},
		Links:   []api.Link{link(0, 9, 1, 1, 1), link(2, 30, 0, 2, 1), link(1, 5, 3, 1, 1), link(1, 2, 4, 1, 1), link(5, 1, 2, 7, 1), link(6, 8, 5, 2, 1)},
	}
	c := opened(t, n, 1)
	wantSeen(t, "from the middle", c, 2, 1, 5, 4, 3, 6)
	c.From = 6
	wantSeen(t, "from an end", c, 5, 2, 0, 1, 4, 3)
	c.From = 1
	wantSeen(t, "from a fork", c, 0, 4, 3, 2, 5, 6)
}

// J2: to someone of whom books know a frame goes there alone; on another way it does not.
func TestWhoWasSeenIsFound(t *testing.T) {
	c := settled(t, chain(5), 2)
	say := func(what string, from, vid int, dst, src uint64, bridges ...int) {
		t.Helper()
		c.From, c.VID, c.Frame = from, vid, plainFrame(dst, src)
		c.Books = wantSeen(t, what, c, bridges...)
	}
	say("to someone unknown", 1, 7, 64, 61, 0, 2, 3, 4)
	say("back", 4, 7, 61, 64, 1)
	say("and again", 1, 7, 64, 61, 4)
	say("from aside", 0, 7, 61, 60, 1)
	say("over a bridge that knows, from one that does not", 0, 7, 64, 60, 4)
	say("to one's own bridge", 4, 7, 64, 69)
	say("on another way", 1, 9, 64, 61, 0, 2, 3, 4)
	say("back there", 4, 9, 61, 64, 1)
	say("who moves", 3, 7, 61, 64, 1)
	say("is found", 1, 7, 64, 61, 3)
	for i := range c.Books {
		c.Books[i] = book.Old(c.Books[i], 301)
	}
	say("who is forgotten", 1, 7, 64, 61, 0, 2, 3, 4)
}

// J2: who sends to itself is found where it sends from, and nobody sees it.
func TestToItself(t *testing.T) {
	c := settled(t, chain(3), 1)
	c.Frame.Dst = c.Frame.Src
	wantSend(t, "to itself", c, answer{nil, [][]api.Entry{{entry(7, 50, 0, 0)}, nil, nil}, true, api.Fault{}})
}

// J2: all see what is sent to many; what is for a bridge itself nobody sees, and nobody is learnt by it.
func TestOfManyAndReserved(t *testing.T) {
	for _, dst := range []uint64{everyone, manyBit, 0x0180C1FFFFFF, 0x0180C2000010} {
		c := settled(t, chain(3), 1)
		c.Frame.Dst = dst
		wantSeen(t, "of many", c, 1, 2)
	}
	for i := range uint64(16) {
		c := settled(t, chain(3), 1)
		c.Frame.Dst = 0x0180C2000000 + i
		c.Books[0] = []api.Entry{entry(7, 50, 1, 30)}
		wantSend(t, "reserved", c, answer{nil, c.Books, true, api.Fault{}})
	}
}

// J2: all books are answered: those of bridges where nothing came are as they were, and of the others all but what is learnt.
func TestAllBooks(t *testing.T) {
	c := settled(t, chain(4), 1)
	full := make([]api.Entry, 30)
	for i := range full {
		full[i] = entry(8, uint64(i), i, 10*i)
	}
	c.Books = [][]api.Entry{
		{entry(6, 50, 2, 9), entry(7, 50, 2, 9), entry(8, 50, 2, 9)},
		full,
		{entry(7, 99, 1, 300), entry(9, 99, 0, 4)},
		{entry(7, 50, 30, 12)},
	}
	want := copyOf(c.Books)
	want[0][1] = entry(7, 50, 0, 0)
	want[2] = []api.Entry{entry(7, 50, 1, 0), entry(7, 99, 1, 300), entry(9, 99, 0, 4)}
	wantSend(t, "books", c, answer{hosts(c.Frame, 1), want, true, api.Fault{}})
}

// J2: what is wrong with a book is told at 0 when its bridge relays, whether it lets the frame in or not; of one where nothing comes nothing is said.
func TestWrongBooks(t *testing.T) {
	for _, row := range []struct {
		err api.Errno
		l   []api.Entry
	}{
		{api.ErrMany, make([]api.Entry, 31)},
		{api.ErrRange, []api.Entry{entry(7, 1, 1, 1), entry(7, 2, 31, 1)}},
		{api.ErrForm, []api.Entry{entry(7, 1, 1, 1), entry(7, 2, 1, 1), entry(7, 2, 1, 1)}},
	} {
		for from := range 4 {
			for i := range 4 {
				c := settled(t, chain(4), 1)
				c.From = from
				c.Books[i] = row.l
				wantSend(t, "a wrong book", c, faulty(row.err, 0))
				setCalm(c.Talk, 0, 2, 1, 0)
				// Bridge 2 is where frames from the first two end, and those from the last two do not leave it.
				if from < 2 && i < 3 || from > 1 && i > 1 {
					wantSend(t, "as far as it comes", c, faulty(row.err, 0))
					continue
				}
				got := c.send()
				if !got.OK || got.Fault != (api.Fault{}) || !slices.Equal(got.Books[i], row.l) {
					t.Errorf("from %d, where nothing comes to %d: %v comes", from, i, got)
				}
			}
		}
	}
	c := settled(t, chain(3), 1)
	c.Books = [][]api.Entry{nil, make([]api.Entry, 31), make([]api.Entry, 1)}
	wantSend(t, "the one that comes first", c, faulty(api.ErrMany, 0))
}

// J2: where ports are open all round, a frame goes round and round; then there is neither an answer nor a fault.
func TestRoundAndRound(t *testing.T) {
	for what, n := range map[string]api.Net{
		"ring": ring(),
		"full": full(),
		"two links": {
			Bridges: []api.Bridge{bridge(1), bridge(2)},
			Links:   []api.Link{link(0, 1, 1, 1, 5), link(1, 2, 0, 2, 5)},
		},
	} {
		c := opened(t, n, 4)
		for _, vid := range []int{7, 9, 11, 4094} {
			for from := range n.Bridges {
				c.From, c.VID = from, vid
				wantSend(t, what, c, answer{})
			}
		}
	}
	c := opened(t, ring(), 2)
	setCalm(c.Talk, 0, 1, 1, 49)
	wantSeen(t, "a ring with a port that is shut", c, 1, 3, 2)
	c.VID = 9
	wantSend(t, "on the other tree", c, answer{})
}

// fan has each of forty links carry one frame: bridge 0 and bridge 1 are open, and all other ends shut.
func fan(t *testing.T) call {
	n := api.Net{Links: []api.Link{link(0, 1, 1, 1, 1)}}
	for i := range 12 {
		n.Bridges = append(n.Bridges, bridge(uint64(i)))
	}
	leaf := func(bridge, port int) {
		i := len(n.Links) - 1
		n.Links = append(n.Links, link(bridge, port, 2+i%9, 1+i/9, 1))
	}
	for port := 2; port <= 30; port++ {
		leaf(0, port)
	}
	for port := 2; port <= 10; port++ {
		leaf(1, port)
	}
	n.Links = append(n.Links, link(1, 11, 11, 1, 1))
	c := opened(t, n, 1)
	for i := 2; i < 12; i++ {
		for _, port := range c.Talk.Minds[0][i].Ports {
			setCalm(c.Talk, 0, i, port, 0)
		}
	}
	return c
}

// J2: forty-one frames may come.
func TestEachLinkOnce(t *testing.T) {
	c := fan(t)
	_, came := wantKnown(t, "each link once", c)
	if came != 41 || len(c.Net.Links) != 40 {
		t.Errorf("%d frames come over %d links", came, len(c.Net.Links))
	}
	wantSeen(t, "each link once", c, 1)
	c.Books[11] = make([]api.Entry, 1)
	wantSend(t, "a wrong book where the last one comes", c, faulty(api.ErrRange, 0))
}

// valves has a frame come twice to bridge 3, over bridges 1 and 2, whose books let nothing go back.
// Bridge 3 and bridge 0 have some links to ends that are shut; behind bridge 3 stand bridges 4, 5 and 6 in a row, as many as tail.
func valves(t *testing.T, leaves, early, tail int) call {
	n := api.Net{Links: []api.Link{link(0, 1, 1, 1, 1), link(0, 2, 2, 1, 1), link(1, 2, 3, 1, 1), link(2, 2, 3, 2, 1)}}
	for i := range 12 {
		n.Bridges = append(n.Bridges, bridge(uint64(i)))
	}
	for i := range leaves {
		n.Links = append(n.Links, link(3, 3+i, 7+i%5, 1+i/5, 1))
	}
	for i := range early {
		n.Links = append(n.Links, link(0, 3+i, 7+i%5, 20+i/5, 1))
	}
	for i := range tail {
		n.Links = append(n.Links, link(3+i, 30, 4+i, 29, 1))
	}
	c := opened(t, n, 1)
	for i := 7; i < 12; i++ {
		for _, port := range c.Talk.Minds[0][i].Ports {
			setCalm(c.Talk, 0, i, port, 0)
		}
	}
	c.Books[1] = []api.Entry{entry(7, 99, 2, 0)}
	c.Books[2] = []api.Entry{entry(7, 99, 2, 0)}
	return c
}

// J2: forty-one frames may come, and a forty-second one may not be to come.
func TestHowManyMayCome(t *testing.T) {
	met := map[int]int{}
	for leaves := range 21 {
		for early := range 8 {
			for tail := range 4 {
				c := valves(t, leaves, early, tail)
				all := 7 + 2*leaves + early + 2*tail
				met[all]++
				if all > 41 {
					wantSend(t, "too many", c, answer{})
					continue
				}
				seen := []int{3, 3}
				for i := range tail {
					seen = append(seen, 4+i, 4+i)
				}
				wantSeen(t, "not too many", c, seen...)
				if _, came := wantKnown(t, "known", c); came != all {
					t.Errorf("%d frames come, not %d", came, all)
				}
			}
		}
	}
	if met[40] < 5 || met[41] < 5 || met[42] < 5 {
		t.Errorf("too few to tell: %v", met)
	}
}

// J2: what is wrong where the forty-first one comes is told, though one be to come still; where the forty-second one would come nobody looks.
func TestFaultsNearTheEnd(t *testing.T) {
	for leaves := 10; leaves < 20; leaves++ {
		for early := range 10 {
			c := valves(t, leaves, early, 3)
			c.Books[6] = make([]api.Entry, 1)
			want := faulty(api.ErrRange, 0)
			if first := 12 + 2*leaves + early; first > 41 {
				want = answer{}
			}
			wantSend(t, "a wrong book at the end of the row", c, want)
		}
	}
}

// reach are the bridges that b reaches over links that carry frames, but for itself.
func reach(n api.Net, b int) []int {
	there := map[int]bool{b: true}
	for range n.Bridges {
		for _, k := range n.Links {
			if k.Up && (there[k.A] || there[k.B]) && same(n.Bridges[k.A].Region, n.Bridges[k.B].Region) {
				there[k.A], there[k.B] = true, true
			}
		}
	}
	var l []int
	for i := range n.Bridges {
		if there[i] && i != b {
			l = append(l, i)
		}
	}
	return l
}

// wantAllOnce asks that all hosts which that of bridge from reaches see what it sends, once; it answers the books.
func wantAllOnce(t *testing.T, what string, c call) [][]api.Entry {
	t.Helper()
	a := c.send()
	var got []int
	for _, s := range a.Seen {
		got = append(got, s.Bridge)
	}
	slices.Sort(got)
	if want := reach(c.Net, c.From); !a.OK || !slices.Equal(got, want) {
		t.Fatalf("%s: from %d on way %d: %v see it, not %v (%v, %v)", what, c.From, c.VID, got, want, a.OK, a.Fault)
	}
	return a.Books
}

// J2: in a net that has settled all see it, once, on each way; and who was seen is found.
func TestAllSeeItOnce(t *testing.T) {
	next := pick(101)
	met := 0
	for range 60 {
		n := someNet(next)
		for i := range n.Bridges {
			n.Bridges[i].Region = hedge()
			n.Bridges[i].Region.Revision = next(8) / 7
		}
		c := settled(t, n, 4)
		for _, vid := range []int{7, 9, 11, 4094} {
			c.VID, c.Books = vid, make([][]api.Entry, len(n.Bridges)) // one book does not take twelve on each way
			for from := range n.Bridges {
				c.From, c.Frame = from, plainFrame(99, uint64(from))
				c.Books = wantAllOnce(t, "unknown", c)
			}
			for from := range n.Bridges {
				for _, to := range reach(n, from) {
					met++
					c.From, c.Frame = from, plainFrame(uint64(to), uint64(from))
					c.Books = wantSeen(t, "known", c, to)
				}
			}
		}
	}
	if met < 1000 {
		t.Errorf("too few to tell: %d", met)
	}
}

// J2: two ways go over two trees: what one does not use carries the other one.
func TestTwoWaysTwoTrees(t *testing.T) {
	c := settled(t, ring(), 2)
	c.From = 1
	onFirst := wantSeen(t, "tree 0", c, 2, 0, 3)
	c.VID = 9
	onSecond := wantSeen(t, "tree 1", c, 2, 0, 3)
	where := func(books [][]api.Entry) []int {
		var l []int
		for _, b := range books {
			l = append(l, b[0].Port)
		}
		return l
	}
	// Bridge 3 hears of tree 0 from bridge 0, at port 1, and of tree 1 from bridge 2, at port 2.
	if a, b := where(onFirst), where(onSecond); !slices.Equal(a, []int{1, 0, 2, 1}) || !slices.Equal(b, []int{1, 0, 2, 2}) {
		t.Errorf("%v and %v come", a, b)
	}
}

// J2: a ring that breaks is a line: all see it still, behind enough ticks, whichever link it is.
func TestRingThatBreaks(t *testing.T) {
	for _, n := range []api.Net{ring(), full()} {
		for broken := range n.Links {
			c := settled(t, n, 2)
			var f api.Fault
			c.Net, c.Talk, f = talk.On(n, c.Talk, []api.Do{{Kind: api.DoDown, N: broken}, {Kind: api.DoTick, N: 100}})
			if f.Err != api.OK {
				t.Fatal(f)
			}
			for _, vid := range []int{7, 9} {
				for from := range n.Bridges {
					c.From, c.VID = from, vid
					wantAllOnce(t, "broken", c)
				}
			}
		}
	}
}

// J2: nothing goes round, as long as bridges talk, tick by tick, from the start.
func TestNothingGoesRound(t *testing.T) {
	for _, n := range []api.Net{ring(), full()} {
		c := opened(t, n, 2)
		c.Talk = start(t, n, 2)
		for range 110 {
			for _, vid := range []int{7, 9} {
				c.VID = vid
				if a, _ := wantKnown(t, "tick by tick", c); !a.OK {
					t.Errorf("%v comes", a)
				}
			}
			_, c.Talk, _ = talk.On(n, c.Talk, []api.Do{{Kind: api.DoTick, N: 1}})
		}
		wantAllOnce(t, "at the end", c)
	}
}

// J1 and J2: many nets, talks and books, with many frames each, are what the other means tell.
func TestSendsOfMany(t *testing.T) {
	next := pick(102)
	round, saw, far := 0, map[int]int{}, 0
	for range 700 {
		c := someCall(t, next)
		for range 4 {
			a, came := wantKnown(t, "some", c)
			if a.Fault.Err != api.OK {
				t.Fatalf("%v is wrong: %v", c, a.Fault)
			}
			if !a.OK {
				round++
			} else {
				saw[len(a.Seen)]++
				c.Books = a.Books
			}
			if came > 9 && a.OK {
				far++
			}
			c.From, c.Frame.Src, c.Frame.Dst = next(len(c.Net.Bridges)), c.Frame.Dst&^manyBit, c.Frame.Src
		}
	}
	if round < 50 || saw[0] < 200 || saw[1] < 200 || saw[2] < 50 || saw[4] < 20 || far < 3 {
		t.Errorf("too few to tell: %d go round, %v hosts see one, %d go far", round, saw, far)
	}
}

// J1 and J2: calls that are often wrong.
func TestFaultsOfMany(t *testing.T) {
	next := pick(103)
	faults := map[api.Errno]int{}
	for range 1500 {
		c := copyOf(someCall(t, next))
		for range 1 + next(3) {
			spoil(&c, next)
		}
		a, _ := wantKnown(t, "spoilt", c)
		faults[a.Fault.Err]++
	}
	for _, err := range []api.Errno{api.OK, api.ErrKind, api.ErrForm, api.ErrRange, api.ErrMuch, api.ErrMany, api.ErrNone, api.ErrFit} {
		if faults[err] == 0 {
			t.Errorf("%v was not met: %v", err, faults)
		}
	}
}

// bare is c with nil in the place of lists that have nothing.
func bare(v reflect.Value) reflect.Value {
	switch v.Kind() {
	case reflect.Slice:
		if v.Len() == 0 {
			return reflect.Zero(v.Type())
		}
		c := reflect.MakeSlice(v.Type(), v.Len(), v.Len())
		for i := range v.Len() {
			c.Index(i).Set(bare(v.Index(i)))
		}
		return c
	case reflect.Struct:
		c := reflect.New(v.Type()).Elem()
		for i := range v.NumField() {
			c.Field(i).Set(bare(v.Field(i)))
		}
		return c
	}
	return v
}

// askedOf are the calls of which Z2 and Z3 are asked.
func askedOf(t *testing.T) map[string]call {
	t.Helper()
	nothing := api.Net{Bridges: []api.Bridge{{Addr: 8, Region: api.Region{Name: "r"}}}}
	l := map[string]call{
		"alone":           settled(t, nothing, 1),
		"nothing":         {Talk: api.Talk{Minds: make([][]api.Mind, 2)}, VID: 7, Frame: plainFrame(99, 50)},
		"nothing at all":  {},
		"two":             settled(t, two(), 2),
		"ring":            settled(t, ring(), 2),
		"full":            settled(t, full(), 4),
		"too early":       settled(t, chain(4), 1),
		"round and round": opened(t, ring(), 2),
		"each link once":  fan(t),
		"twice":           valves(t, 5, 2, 2),
		"wrong":           goodCall(t),
		"a wrong book":    goodCall(t),
		"reserved":        goodCall(t),
		"no data":         goodCall(t),
	}
	change := func(what string, f func(*call)) {
		c := l[what]
		f(&c)
		l[what] = c
	}
	change("too early", func(c *call) { c.Talk = start(t, c.Net, 1) })
	change("wrong", func(c *call) { c.Frame.Type = 3 })
	change("a wrong book", func(c *call) { c.Books[2] = []api.Entry{entry(7, 3, 1, 0), entry(7, 3, 1, 0)} })
	change("reserved", func(c *call) { c.Frame.Dst = 0x0180C2000001 })
	change("no data", func(c *call) { c.Frame.Data = nil })
	next := pick(104)
	for i := range 20 {
		l["some "+string(rune('a'+i))] = someCall(t, next)
	}
	return l
}

// Z3: nil and lists without entries are the same, wherever they are handed in.
func TestNilIsEmpty(t *testing.T) {
	for what, c := range askedOf(t) {
		want, _ := knownSend(c)
		wantSend(t, what+", empty", copyOf(c), want)
		wantSend(t, what+", nil", bare(reflect.ValueOf(c)).Interface().(call), want)
	}
}

// spaced is v in memory of its own, with rubbish in the spare room behind each list.
func spaced(v reflect.Value) reflect.Value {
	switch v.Kind() {
	case reflect.Slice:
		c := reflect.MakeSlice(v.Type(), v.Len()+3, v.Len()+3)
		for i := range c.Len() {
			if i < v.Len() {
				c.Index(i).Set(spaced(v.Index(i)))
			} else {
				rubbish(c.Index(i))
			}
		}
		return c.Slice(0, v.Len())
	case reflect.Struct:
		c := reflect.New(v.Type()).Elem()
		for i := range v.NumField() {
			c.Field(i).Set(spaced(v.Field(i)))
		}
		return c
	}
	return v
}

// rubbish writes over v, and all that hangs on it, spare room too.
func rubbish(v reflect.Value) {
	switch v.Kind() {
	case reflect.Slice:
		v = v.Slice(0, v.Cap())
		for i := range v.Len() {
			rubbish(v.Index(i))
		}
	case reflect.Struct:
		for i := range v.NumField() {
			rubbish(v.Field(i))
		}
	case reflect.Int:
		v.SetInt(50)
	case reflect.Uint64, reflect.Uint8:
		v.SetUint(99)
	case reflect.Bool:
		v.SetBool(!v.Bool())
	case reflect.String:
		v.SetString("rubbish")
	}
}

func spacedOf(c call) call {
	return spaced(reflect.ValueOf(c)).Interface().(call)
}

// scrub writes over all lists of x.
func scrub[T any](x T) {
	rubbish(reflect.ValueOf(&x).Elem())
}

// Z2: lists and their spare room are neither changed, nor looked at, nor kept; and what is answered is the caller's.
func TestOnlyReadAndAnswersNew(t *testing.T) {
	for what, c := range askedOf(t) {
		want, _ := knownSend(c)
		wide := spacedOf(c)
		before := roomy(wide)
		first := wide.send()
		second := wide.send()
		wantAnswer(t, what+", with spare room", first, want)
		scrub(first)
		if !reflect.DeepEqual(before, roomy(wide)) {
			t.Errorf("%s: what was handed in is changed, or an answer lies in it", what)
		}
		wantAnswer(t, what+", beside another answer", second, want)
		scrub(wide)
		wantAnswer(t, what+", kept", second, want)
		wantSend(t, what+", asked again", c, want)
	}
}

// room is where a list lies in memory, with its spare room.
type room struct{ from, to uintptr }

// roomsOf are the rooms of all lists in v.
func roomsOf(v reflect.Value) []room {
	var l []room
	switch v.Kind() {
	case reflect.Slice:
		if size := uintptr(v.Cap()) * v.Type().Elem().Size(); size > 0 {
			l = append(l, room{v.Pointer(), v.Pointer() + size})
		}
		for i := range v.Len() {
			l = append(l, roomsOf(v.Index(i))...)
		}
	case reflect.Struct:
		for i := range v.NumField() {
			l = append(l, roomsOf(v.Field(i))...)
		}
	}
	return l
}

// Z2: no two lists of what is answered lie in each other, nor in what was handed in, nor in another answer; their spare room does not either.
func TestAnswersShareNothing(t *testing.T) {
	for what, c := range askedOf(t) {
		c = copyOf(c) // the lists of what is handed in may lie in each other else
		a, b := c.send(), c.send()
		var rooms []room
		for _, x := range []any{c, a, b} {
			rooms = append(rooms, roomsOf(reflect.ValueOf(x))...)
		}
		slices.SortFunc(rooms, func(a, b room) int { return cmp.Compare(a.from, b.from) })
		for i := range rooms {
			if i > 0 && rooms[i-1].to > rooms[i].from {
				t.Errorf("%s: two lists share memory", what)
			}
		}
		runtime.KeepAlive([]any{c, a, b})
	}
}

// Z2: books that are handed in may be one and the same list; those that are answered are not.
func TestOneBookForAll(t *testing.T) {
	c := settled(t, chain(4), 1)
	shared := []api.Entry{entry(7, 99, 2, 30), entry(8, 50, 1, 30)}
	for i := range c.Books {
		c.Books[i] = shared
	}
	setCalm(c.Talk, 0, 1, 2, 0)
	want, _ := knownSend(c)
	got := c.send()
	for i := range got.Books {
		other := c.send()
		scrub(other.Books[i])
		other.Books[i] = want.Books[i]
		wantAnswer(t, "one of them written over", other, want)
	}
	wantAnswer(t, "one book", got, want)
}

// Z1: what is answered hangs on nothing but the arguments, whoever else asks at the same time.
func TestManyAskAtOnce(t *testing.T) {
	c := settled(t, ring(), 2)
	round := opened(t, ring(), 2)
	var all sync.WaitGroup
	for i := range 8 {
		all.Go(func() {
			mine := c
			mine.From, mine.VID = i%4, 7+i/4*2
			for range 4 {
				wantKnown(t, "at once", mine)
				wantSend(t, "at once", round, answer{})
			}
		})
	}
	all.Wait()
}

// Z1: nothing panics, and all ends, of nets, talks and books that are none either.
func TestNothingPanics(t *testing.T) {
	numbers := []int{math.MinInt, -1, 0, 1, 12, 31, 4095, math.MaxInt}
	for _, a := range numbers {
		for _, b := range numbers {
			c := goodCall(t)
			c.From, c.VID = a, b
			wantKnown(t, "from and vid", c)
			c = goodCall(t)
			c.Net.Links[1] = link(a, b, b, a, 1)
			wantKnown(t, "a link", c)
			c = goodCall(t)
			c.Talk.Minds[0][1] = api.Mind{Ports: []int{a, b}, Roles: []int{a, b}, Calm: []int{a, b}}
			wantKnown(t, "a mind", c)
			c = goodCall(t)
			c.Talk.Minds[0][1].Calm = []int{a, b}
			c.Talk.Minds[0][2].Roles = []int{a, b}
			wantKnown(t, "calm", c)
			c.Books[1] = []api.Entry{entry(a, uint64(b), b, a)}
			wantKnown(t, "a book", c)
			c = goodCall(t)
			c.Frame.Dst, c.Frame.Type, c.Frame.VID, c.Frame.Prio = uint64(a), b, a, b
			wantKnown(t, "a frame", c)
		}
	}
	for _, x := range []api.Talk{{}, {Minds: [][]api.Mind{nil, {{}}}}, {Minds: make([][]api.Mind, 5)}} {
		Send(api.Net{}, x, nil, 0, 7, api.Frame{})
		Send(ring(), x, make([][]api.Entry, 4), 0, 7, api.Frame{})
	}
}

// FuzzSend: nothing panics, and what comes is as it is reckoned.
func FuzzSend(f *testing.F) {
	f.Add(uint64(1), 0, 0, 7, uint64(99), uint64(50))
	f.Add(uint64(2), 1, 3, 9, uint64(51), uint64(52))
	f.Add(uint64(3), 2, -1, 4095, uint64(1<<48), uint64(manyBit))
	f.Fuzz(func(t *testing.T, seed uint64, spoils, from, vid int, dst, src uint64) {
		next := pick(seed)
		c := copyOf(someCall(t, next))
		for range spoils & 3 {
			spoil(&c, next)
		}
		wantKnown(t, "fuzz", c)
		c.From, c.VID, c.Frame.Dst, c.Frame.Src = from, vid, dst, src
		wantKnown(t, "fuzz", c)
	})
}
