package lan

import (
	"math"
	"reflect"
	"slices"
	"testing"

	"hedgerow/api"
	"hedgerow/talk"
)

const (
	everyone = 1<<48 - 1
	manyBit  = 1 << 40
	ipType   = 0x0800
)

// call is what is handed to Send.
type call struct {
	Net       api.Net
	Talk      api.Talk
	Books     [][]api.Entry
	From, VID int
	Frame     api.Frame
}

// answer is what Send answers.
type answer struct {
	Seen  []api.Seen
	Books [][]api.Entry
	OK    bool
	Fault api.Fault
}

func (c call) send() answer {
	seen, books, ok, fault := Send(c.Net, c.Talk, c.Books, c.From, c.VID, c.Frame)
	return answer{seen, books, ok, fault}
}

func faulty(err api.Errno, at int) answer {
	return answer{Fault: api.Fault{Err: err, At: at}}
}

// hedge is a region in which ways 9, 11 and 4094 go over trees 1, 2 and 3.
func hedge() api.Region {
	return api.Region{Name: "hedge", Ways: []api.Way{{VID: 9, Tree: 1}, {VID: 11, Tree: 2}, {VID: 4094, Tree: 3}}}
}

func bridge(addr uint64, prios ...int) api.Bridge {
	return api.Bridge{Addr: addr, Prios: prios, Region: hedge()}
}

func link(a, portA, b, portB, cost int) api.Link {
	return api.Link{A: a, PortA: portA, B: b, PortB: portB, Cost: cost, Up: true}
}

func entry(vid int, addr uint64, port, age int) api.Entry {
	return api.Entry{VID: vid, Addr: addr, Port: port, Age: age}
}

func plainFrame(dst, src uint64) api.Frame {
	return api.Frame{Dst: dst, Src: src, Type: ipType, Data: []byte("data")}
}

// hosts are what those bridges' hosts see, if each one sees f.
func hosts(f api.Frame, bridges ...int) []api.Seen {
	var l []api.Seen
	for _, i := range bridges {
		l = append(l, api.Seen{Bridge: i, Frame: f})
	}
	return l
}

// two is two bridges, and a link between them.
func two() api.Net {
	return api.Net{Bridges: []api.Bridge{bridge(8), bridge(9)}, Links: []api.Link{link(0, 4, 1, 3, 6)}}
}

// chain is so many bridges in a row: each one has the next one at port 2, and the one ahead at port 1.
func chain(k int) api.Net {
	var n api.Net
	for i := range k {
		n.Bridges = append(n.Bridges, bridge(uint64(100+i)))
		if i > 0 {
			n.Links = append(n.Links, link(i-1, 2, i, 1, 10))
		}
	}
	return n
}

// ring is four bridges, each with two neighbours; bridge 0 is the root of tree 0, and bridge 2 of tree 1.
func ring() api.Net {
	return api.Net{
		Bridges: []api.Bridge{bridge(10), bridge(20), bridge(30, 32768, 4096), bridge(40)},
		Links:   []api.Link{link(0, 1, 1, 2, 10), link(1, 1, 2, 2, 10), link(2, 1, 3, 2, 10), link(3, 1, 0, 2, 10)},
	}
}

// full has as many bridges, links and trees as may be, and numbers at the ends of their ranges.
func full() api.Net {
	var n api.Net
	for i := range 12 {
		n.Bridges = append(n.Bridges, bridge(api.MaxAddr-uint64(i), slices.Repeat([]int{61440}, 16)...))
	}
	for i := range 40 {
		a := i % 12
		n.Links = append(n.Links, link(a, 30-i/12, (a+1+i/12)%12, 1+i/12, []int{1, api.MaxStep}[i%2]))
	}
	return n
}

func start(t *testing.T, n api.Net, trees int) api.Talk {
	t.Helper()
	x, f := talk.Start(n, trees)
	if f.Err != api.OK {
		t.Fatalf("%v: %v", n, f)
	}
	return x
}

// calm is a talk of n in which all ports are calm for so long, on all trees, whether a link carries anything or not.
func calm(t *testing.T, n api.Net, trees, ticks int) api.Talk {
	t.Helper()
	x := start(t, n, trees)
	for tree := range trees {
		for i := range n.Bridges {
			l := x.Minds[tree][i].Calm
			for at := range l {
				l[at] = ticks
			}
		}
	}
	return x
}

// ticked is the talk of n behind so many ticks.
func ticked(t *testing.T, n api.Net, trees, ticks int) api.Talk {
	t.Helper()
	_, x, f := talk.Play(n, trees, []api.Do{{Kind: api.DoTick, N: ticks}})
	if f.Err != api.OK {
		t.Fatalf("%v: %v", n, f)
	}
	return x
}

// setCalm sets for how long a port is calm, on a tree.
func setCalm(x api.Talk, tree, bridge, port, ticks int) {
	m := x.Minds[tree][bridge]
	m.Calm[slices.Index(m.Ports, port)] = ticks
}

// unknown has a frame to someone unknown come from bridge 0, on way 7 and over tree 0.
func unknown(n api.Net, x api.Talk) call {
	return call{n, x, make([][]api.Entry, len(n.Bridges)), 0, 7, plainFrame(99, 50)}
}

// settled is such a call, where the net has settled.
func settled(t *testing.T, n api.Net, trees int) call {
	t.Helper()
	return unknown(n, ticked(t, n, trees, 100))
}

// opened is such a call, where all ports are open.
func opened(t *testing.T, n api.Net, trees int) call {
	t.Helper()
	return unknown(n, calm(t, n, trees, 50))
}

type stop struct{ bridge, port int }

// opens says whether a gate is open for the call's way, by numbers that are written out.
func (c call) opens(s stop) bool {
	if s.port == 0 {
		return true
	}
	tree := 0
	for _, w := range c.Net.Bridges[s.bridge].Region.Ways {
		if w.VID == c.VID {
			tree = w.Tree
		}
	}
	m := c.Talk.Minds[tree][s.bridge]
	for at, port := range m.Ports {
		if port == s.port {
			return m.Calm[at] >= 50
		}
	}
	return false
}

// beyond are the ends of links that are up, on the other side of s: one, or none.
func (c call) beyond(s stop) []stop {
	var l []stop
	for _, k := range c.Net.Links {
		a, b := stop{k.A, k.PortA}, stop{k.B, k.PortB}
		if k.Up && a == s {
			l = append(l, b)
		}
		if k.Up && b == s {
			l = append(l, a)
		}
	}
	return l
}

// knownFault is what J1 says; what On says is asked of On.
func knownFault(c call) api.Fault {
	_, _, f := talk.On(c.Net, c.Talk, nil)
	if f.Err != api.OK {
		return f
	}
	g := c.Frame
	switch k := len(c.Net.Bridges); {
	case len(c.Books) != k:
		f.Err = api.ErrFit
	case c.From < 0 || c.From >= k:
		f.Err = api.ErrNone
	case c.VID < 1 || c.VID > 4094:
		f.Err = api.ErrRange
	case g.Tagged:
		f.Err = api.ErrKind
	case g.Dst>>48 != 0 || g.Src>>48 != 0:
		f.Err = api.ErrRange
	case g.Src>>40&1 == 1:
		f.Err = api.ErrFit
	case g.Type < 0x0600 || g.Type > 0xFFFF || g.Type == 0x8100:
		f.Err = api.ErrKind
	case len(g.Data) > 1500:
		f.Err = api.ErrMuch
	}
	for _, b := range c.Net.Bridges {
		for _, w := range b.Region.Ways {
			if f.Err == api.OK && w.VID == c.VID && w.Tree >= len(c.Talk.Minds) {
				f.Err = api.ErrMany
			}
		}
	}
	return f
}

func knownWrongBook(l []api.Entry) api.Errno {
	if len(l) > 30 {
		return api.ErrMany
	}
	for i, e := range l {
		if e.VID < 1 || e.VID > 4094 || e.Addr>>48 != 0 || e.Port < 0 || e.Port > 30 || e.Age < 0 || e.Age > 300 {
			return api.ErrRange
		}
		if i > 0 && (l[i-1].VID > e.VID || l[i-1].VID == e.VID && l[i-1].Addr >= e.Addr) {
			return api.ErrForm
		}
	}
	return api.OK
}

// knownLearn puts someone new ahead of the first one who is not less.
func knownLearn(l []api.Entry, vid int, addr uint64, port int) []api.Entry {
	at := 0
	for ; at < len(l); at++ {
		if l[at].VID == vid && l[at].Addr == addr {
			l[at].Port, l[at].Age = port, 0
			return l
		}
		if l[at].VID > vid || l[at].VID == vid && l[at].Addr > addr {
			break
		}
	}
	if len(l) == 30 {
		return l
	}
	return slices.Insert(l, at, entry(vid, addr, port, 0))
}

// knownSend is what J1 and J2 say, and how many frames have come: without gates and tags, as all that goes over links is of one way.
func knownSend(c call) (answer, int) {
	if f := knownFault(c); f.Err != api.OK {
		return answer{Fault: f}, 0
	}
	c = copyOf(c)
	f := api.Frame{Dst: c.Frame.Dst, Src: c.Frame.Src, Type: c.Frame.Type, Data: c.Frame.Data}
	var seen []api.Seen
	line := []stop{{c.From, 0}}
	for came := 0; came < len(line); came++ {
		if came == 41 {
			return answer{}, came
		}
		s := line[came]
		if err := knownWrongBook(c.Books[s.bridge]); err != api.OK {
			return faulty(err, 0), came
		}
		if !c.opens(s) || f.Dst>>4 == 0x0180C200000 {
			continue
		}
		c.Books[s.bridge] = knownLearn(c.Books[s.bridge], c.VID, f.Src, s.port)
		only := slices.IndexFunc(c.Books[s.bridge], func(e api.Entry) bool { return e.VID == c.VID && e.Addr == f.Dst })
		for port := range 31 {
			out := stop{s.bridge, port}
			switch {
			case port == s.port || !c.opens(out) || only >= 0 && c.Books[s.bridge][only].Port != port:
			case port == 0:
				seen = append(seen, api.Seen{Bridge: s.bridge, Frame: f})
			default:
				line = append(line, c.beyond(out)...)
			}
		}
	}
	return answer{seen, c.Books, true, api.Fault{}}, len(line)
}

// pick is a row of numbers that hang on seed alone.
func pick(seed uint64) func(n int) int {
	return func(n int) int {
		seed = seed*6364136223846793005 + 1442695040888963407
		return int((seed >> 33) % uint64(n))
	}
}

// someNet is a good net: some of its links are down, and some of its regions unlike.
func someNet(next func(int) int) api.Net {
	var n api.Net
	for i := range 1 + next(12) {
		b := bridge(uint64(i*7%12 + 1))
		for range next(4) {
			b.Prios = append(b.Prios, 4096*(7+next(3)))
		}
		if next(8) == 0 {
			b.Region.Ways = []api.Way{{VID: 7, Tree: 1 + next(3)}, {VID: 11, Tree: 1 + next(3)}}
		}
		n.Bridges = append(n.Bridges, b)
	}
	taken := map[stop]bool{}
	for range next(2 * len(n.Bridges)) {
		k := link(next(len(n.Bridges)), 1+next(30), next(len(n.Bridges)), 1+next(30), 1+next(4))
		k.Up = next(8) > 0
		a, b := stop{k.A, k.PortA}, stop{k.B, k.PortB}
		if k.A != k.B && !taken[a] && !taken[b] {
			taken[a], taken[b] = true, true
			n.Links = append(n.Links, k)
		}
	}
	return n
}

// someBook has some of a few addresses on a few ways, at ports that are often the bridge's own.
func someBook(ports []int, next func(int) int) []api.Entry {
	var l []api.Entry
	for _, vid := range []int{7, 9, 11} {
		for addr := range uint64(10) {
			if next(4) == 0 {
				port := next(31)
				if own := next(len(ports) + 2); own < len(ports) {
					port = ports[own]
				}
				l = append(l, entry(vid, 50+addr, port, next(301)))
			}
		}
	}
	return l
}

// someCall is a good call: ports are open as they may be where bridges agree, or here and there.
func someCall(t *testing.T, next func(int) int) call {
	t.Helper()
	n := someNet(next)
	c := call{Net: n, From: next(len(n.Bridges)), VID: []int{7, 9, 11}[next(3)], Frame: plainFrame(uint64(50+next(10)), uint64(50+next(10)))}
	c.Talk = ticked(t, n, 4, []int{60, 100}[next(2)])
	if next(2) == 0 {
		c.Talk = calm(t, n, 4, 50)
		for range next(3 * len(n.Bridges)) {
			i := next(len(n.Bridges))
			if m := c.Talk.Minds[next(4)][i]; len(m.Calm) > 0 {
				m.Calm[next(len(m.Calm))] = []int{49, 0, -1, 51, math.MinInt, math.MaxInt}[next(6)]
			}
		}
	}
	for i := range n.Bridges {
		c.Books = append(c.Books, nil)
		if next(3) > 0 {
			c.Books[i] = someBook(c.Talk.Minds[0][i].Ports, next)
		}
	}
	c.Frame.VID, c.Frame.Prio, c.Frame.Drop = next(5000), next(9), next(2) == 0
	c.Frame.Data = c.Frame.Data[:next(5)]
	if next(16) == 0 {
		c.Frame.Dst = []uint64{everyone, manyBit, 0x0180C2000000, 0x0180C200000F, 0x0180C2000010}[next(5)]
	}
	return c
}

// spoil has something in a call go wrong, or to an end of its range.
func spoil(c *call, next func(int) int) {
	numbers := []int{math.MinInt, -1, 0, 1, 5, 11, 12, 30, 31, 300, 301, 4094, 4095, 0x05FF, 0x8100, 0x10000, 1 << 40, 1 << 48, math.MaxInt}
	x := numbers[next(len(numbers))]
	i := next(len(c.Net.Bridges))
	switch next(12) {
	case 0:
		c.From = x
	case 1:
		c.VID = x
	case 2:
		c.Frame.Tagged = true
	case 3:
		c.Frame.Dst = uint64(x)
	case 4:
		c.Frame.Src = uint64(x)
	case 5:
		c.Frame.Type = x
	case 6:
		c.Frame.Data = make([]byte, 1499+next(4))
	case 7:
		c.Books = append(c.Books, nil)[:next(len(c.Books)+2)]
	case 8:
		c.Talk.Minds = c.Talk.Minds[:next(5)]
	case 9:
		c.Net.Bridges[i].Addr = uint64(x)
	case 10:
		c.Net.Links = append(c.Net.Links, link(i, 1, x, 1, 1))
	case 11:
		if i < len(c.Books) {
			c.Books[i] = append(c.Books[i], entry(x, 50, 1, 1), entry(12, uint64(x), x, 1))
		}
	}
}

// deep is a copy in memory of its own; each list has its spare room, too, if all is so.
func deep(v reflect.Value, all bool) reflect.Value {
	switch v.Kind() {
	case reflect.Slice:
		if all {
			v = v.Slice(0, v.Cap())
		}
		c := reflect.MakeSlice(v.Type(), v.Len(), v.Len())
		for i := range v.Len() {
			c.Index(i).Set(deep(v.Index(i), all))
		}
		return c
	case reflect.Struct:
		c := reflect.New(v.Type()).Elem()
		for i := range v.NumField() {
			c.Field(i).Set(deep(v.Field(i), all))
		}
		return c
	}
	return v
}

// copyOf is x in memory of its own: so nil lists become empty, and what is the same is DeepEqual.
func copyOf[T any](x T) T {
	return deep(reflect.ValueOf(x), false).Interface().(T)
}

// roomy is x with its spare room shown, in memory of its own.
func roomy[T any](x T) T {
	return deep(reflect.ValueOf(x), true).Interface().(T)
}

func same[T any](a, b T) bool {
	return reflect.DeepEqual(copyOf(a), copyOf(b))
}

func wantAnswer(t *testing.T, what string, got, want answer) {
	t.Helper()
	if !same(got, want) {
		t.Errorf("%s: %v comes, not %v", what, got, want)
	}
}

func wantSend(t *testing.T, what string, c call, want answer) {
	t.Helper()
	wantAnswer(t, what, c.send(), want)
}

// wantSeen asks for what hosts see, and answers the books.
func wantSeen(t *testing.T, what string, c call, bridges ...int) [][]api.Entry {
	t.Helper()
	got := c.send()
	f := api.Frame{Dst: c.Frame.Dst, Src: c.Frame.Src, Type: c.Frame.Type, Data: c.Frame.Data}
	wantAnswer(t, what, got, answer{hosts(f, bridges...), got.Books, true, api.Fault{}})
	if len(got.Books) != len(c.Net.Bridges) {
		t.Fatalf("%s: %v comes, not a book for each of %d bridges", what, got.Books, len(c.Net.Bridges))
	}
	return got.Books
}

// wantKnown asks for what the other means tell, and answers how many frames have come.
func wantKnown(t *testing.T, what string, c call) (answer, int) {
	t.Helper()
	want, came := knownSend(c)
	wantSend(t, what, c, want)
	return want, came
}
