package relay

import (
	"bytes"
	"math"
	"slices"
	"sync"
	"testing"

	"hedgerow/api"
	"hedgerow/book"
	"hedgerow/frame"
	"hedgerow/region"
)

const (
	everyone = 1<<48 - 1
	manyBit  = 1 << 40
	ipType   = 0x0800
)

func gate(port, plain int, open []bool, ways ...int) api.Gate {
	return api.Gate{Port: port, Plain: plain, Open: open, Ways: ways}
}

func entry(vid int, addr uint64, port, age int) api.Entry {
	return api.Entry{VID: vid, Addr: addr, Port: port, Age: age}
}

// hedge is a region in which way 9 goes over tree 1, way 4094 over tree 15, and all others over tree 0.
func hedge() api.Region {
	return api.Region{Name: "hedge", Ways: []api.Way{{VID: 9, Tree: 1}, {VID: 4094, Tree: 15}}}
}

// open is of trees that are open, from tree 0 on.
func open(n int) []bool {
	return slices.Repeat([]bool{true}, n)
}

// yard has gates of ways 5 and 9: some are shut on a tree, or have one way alone.
func yard() []api.Gate {
	return []api.Gate{
		gate(0, 5, open(2), 5, 9),
		gate(1, 0, open(2), 5, 9),
		gate(3, 0, []bool{false, true}, 5, 9),
		gate(7, 9, open(2), 5, 9),
		gate(8, 0, open(2), 9),
		gate(12, 7, open(1), 5, 9),
		gate(29, 0, nil, 5, 9),
		gate(30, 77, open(16), 4, 5, 6, 8, 9, 10),
	}
}

func plainFrame(dst, src uint64) api.Frame {
	return api.Frame{Dst: dst, Src: src, Type: ipType, Data: []byte("data")}
}

func taggedFrame(dst, src uint64, vid, prio int, drop bool) api.Frame {
	f := plainFrame(dst, src)
	f.Tagged, f.VID, f.Prio, f.Drop = true, vid, prio, drop
	return f
}

// someBook has addresses on ways 5 and 9, at ports that are gates and at one that is none.
func someBook() []api.Entry {
	return []api.Entry{entry(5, 10, 1, 40), entry(5, 11, 3, 9), entry(5, 12, 30, 300), entry(5, 13, 20, 7), entry(9, 10, 3, 4), entry(9, 11, 12, 5), entry(9, 14, 7, 0)}
}

// fullBook has as many entries as one may have, all on way 5.
func fullBook() []api.Entry {
	var l []api.Entry
	for i := range 30 {
		l = append(l, entry(5, uint64(100+10*i), []int{0, 1, 3, 7, 30}[i%5], 10*i))
	}
	return l
}

func sameOut(a, b api.Out) bool {
	return a.Port == b.Port && sameFrame(a.Frame, b.Frame)
}

func sameFrame(a, b api.Frame) bool {
	return a.Dst == b.Dst && a.Src == b.Src && a.Tagged == b.Tagged && a.Prio == b.Prio && a.Drop == b.Drop && a.VID == b.VID && a.Type == b.Type && bytes.Equal(a.Data, b.Data)
}

func cloneOut(l []api.Out) []api.Out {
	l = slices.Clone(l)
	for i := range l {
		l[i].Frame.Data = slices.Clone(l[i].Frame.Data)
	}
	return l
}

func ports(l []api.Out) []int {
	var out []int
	for _, o := range l {
		out = append(out, o.Port)
	}
	return out
}

func wantWrong(t *testing.T, what string, l []api.Gate, err api.Errno, at int) {
	t.Helper()
	if got, want := Wrong(l), (api.Fault{Err: err, At: at}); got != want {
		t.Errorf("%s: %v: %v comes, not %v", what, l, got, want)
	}
}

// wantRelay also asks that all that leaves is a frame, and the book one.
func wantRelay(t *testing.T, what string, out []api.Out, l []api.Entry, err api.Errno, wantOut []api.Out, wantBook []api.Entry, wantErr api.Errno) {
	t.Helper()
	if !slices.EqualFunc(out, wantOut, sameOut) || !slices.Equal(l, wantBook) || err != wantErr {
		t.Errorf("%s: %v, %v, %v comes, not %v, %v, %v", what, out, l, err, wantOut, wantBook, wantErr)
	}
	for _, o := range out {
		if e := frame.Wrong(o.Frame); e != api.OK {
			t.Errorf("%s: %v leaves, of which %v is said", what, o, e)
		}
	}
	if f := book.Wrong(l); f != (api.Fault{}) {
		t.Errorf("%s: %v comes, which is no book: %v", what, l, f)
	}
}

// wantPorts asks by which ports f leaves, when it comes in at port, and what the book is then.
func wantPorts(t *testing.T, what string, gates []api.Gate, l []api.Entry, port int, f api.Frame, want []int, wantBook []api.Entry) {
	t.Helper()
	out, m, err := Relay(hedge(), gates, l, port, f)
	if !slices.Equal(ports(out), want) || !slices.Equal(m, wantBook) || err != api.OK {
		t.Errorf("%s: at %d, %v: %v, %v, %v comes, not %v, %v", what, port, f, out, m, err, want, wantBook)
	}
}

// wantErr asks for an error, and for nothing beside it.
func wantErr(t *testing.T, what string, r api.Region, gates []api.Gate, l []api.Entry, port int, f api.Frame, want api.Errno) {
	t.Helper()
	out, m, err := Relay(r, gates, l, port, f)
	if len(out) != 0 || len(m) != 0 || err != want {
		t.Errorf("%s: %v, %v, %v comes, not %v alone", what, out, m, err, want)
	}
}

// wantKnown asks for what the other means tell.
func wantKnown(t *testing.T, what string, r api.Region, gates []api.Gate, l []api.Entry, port int, f api.Frame) []api.Out {
	t.Helper()
	out, m, err := Relay(r, gates, l, port, f)
	knownOut, knownBook, knownErr := knownRelay(r, gates, l, port, f)
	wantRelay(t, what, out, m, err, knownOut, knownBook, knownErr)
	return out
}

func rising(n int) []int {
	l := make([]int, n)
	for i := range l {
		l[i] = i + 1
	}
	return l
}

// allPorts is a gate at each port that there may be.
func allPorts() []api.Gate {
	var l []api.Gate
	for port := range 31 {
		l = append(l, gate(port, port, open(port%17), 5, 6+port, 4094))
	}
	return l
}

// I1: what may be.
func TestWrongOfGoodGates(t *testing.T) {
	for what, l := range map[string][]api.Gate{
		"nil":                  nil,
		"empty":                {},
		"nothing passes":       {gate(0, 0, nil)},
		"least":                {gate(0, 0, open(1), 1)},
		"greatest":             {gate(30, 4094, open(16), 4094)},
		"ends":                 {gate(0, 4094, nil, 1, 4094), gate(30, 0, open(16), 1, 4094)},
		"all ways":             {gate(3, 9, open(2), rising(4094)...)},
		"shut":                 {gate(3, 9, make([]bool, 16), 9)},
		"Plain is none of its": {gate(3, 9, open(2), 8, 10)},
		"Plain without ways":   {gate(3, 9, open(2))},
		"ways fall by gates":   {gate(3, 9, open(2), 8, 9), gate(4, 3, open(1), 2, 3), gate(5, 1, nil, 1)},
		"the yard":             yard(),
		"all ports":            allPorts(),
	} {
		wantWrong(t, what, l, api.OK, 0)
	}
}

// oddGate is how a gate goes wrong, whatever stands ahead of it.
type oddGate struct {
	what   string
	change func(*api.Gate)
	err    api.Errno
}

// oddGates stand as I1 names them.
func oddGates() []oddGate {
	var l []oddGate
	for _, n := range []int{math.MinInt, -1 << 32, -1, 31, 32, 1 << 32, math.MaxInt} {
		l = append(l, oddGate{"Port", func(g *api.Gate) { g.Port = n }, api.ErrRange})
	}
	for _, n := range []int{math.MinInt, -1, 4095, 4096, 1 << 32, math.MaxInt} {
		l = append(l, oddGate{"Plain", func(g *api.Gate) { g.Plain = n }, api.ErrRange})
	}
	for _, n := range []int{17, 18, 32, 5000} {
		l = append(l, oddGate{"Open", func(g *api.Gate) { g.Open = make([]bool, n) }, api.ErrMany})
	}
	for _, n := range []int{math.MinInt, -1, 0, 4095, 4096, math.MaxInt} {
		l = append(l, oddGate{"first way", func(g *api.Gate) { g.Ways = []int{n, 5} }, api.ErrRange})
		l = append(l, oddGate{"last way", func(g *api.Gate) { g.Ways = []int{5, 6, n} }, api.ErrRange})
	}
	for _, ways := range [][]int{{5, 5}, {5, 4}, {1, 1}, {4094, 4094}, {4094, 1}, {1, 2, 3, 3, 4}, {1, 2, 3, 2}, {5, 4, 0}, {5, 5, 4095}} {
		l = append(l, oddGate{"ways", func(g *api.Gate) { g.Ways = ways }, api.ErrForm})
	}
	return l
}

// I1: each thing that may be wrong with a gate, at each gate.
func TestWrongAtEachGate(t *testing.T) {
	for _, odd := range oddGates() {
		for _, base := range []func() []api.Gate{yard, allPorts} {
			for i := range base() {
				l := base()
				odd.change(&l[i])
				wantWrong(t, odd.what, l, odd.err, i)
			}
		}
	}
}

// I1: each number within its range, and nothing beside it.
func TestWrongEachNumber(t *testing.T) {
	for n := -5; n <= 4100; n++ {
		for what, g := range map[string]api.Gate{"Port": gate(n, 0, nil), "Plain": gate(0, n, nil), "way": gate(0, 0, nil, n)} {
			l := []api.Gate{g}
			want := knownWrong(l)
			wantWrong(t, what, l, want.Err, want.At)
		}
	}
}

// I1: sixteen of Open at most.
func TestWrongOpen(t *testing.T) {
	for n := range 17 {
		wantWrong(t, "some trees", []api.Gate{gate(3, 0, open(n), 5)}, api.OK, 0)
		wantWrong(t, "some trees, shut", []api.Gate{gate(3, 0, make([]bool, n), 5)}, api.OK, 0)
	}
	for n := 17; n < 40; n++ {
		wantWrong(t, "too many trees", []api.Gate{gate(3, 0, open(n), 5)}, api.ErrMany, 0)
		wantWrong(t, "too many trees, shut", []api.Gate{gate(3, 0, make([]bool, n), 5)}, api.ErrMany, 0)
	}
}

// I1: the port ahead must be less.
func TestWrongPortsOrder(t *testing.T) {
	for a := range 31 {
		for b := range 31 {
			l := []api.Gate{gate(a, 0, nil), gate(b, 0, nil)}
			if a < b {
				wantWrong(t, "rising", l, api.OK, 0)
			} else {
				wantWrong(t, "not rising", l, api.ErrForm, 1)
			}
		}
	}
	for i := 1; i < 31; i++ {
		l := allPorts()
		l[i].Port = l[i-1].Port
		wantWrong(t, "twice", l, api.ErrForm, i)
		l = allPorts()
		l[i-1], l[i] = l[i], l[i-1]
		wantWrong(t, "changed about", l, api.ErrForm, i)
		wantWrong(t, "and more of them", append(l, l...), api.ErrForm, i)
	}
	wantWrong(t, "many", slices.Repeat(allPorts(), 100), api.ErrForm, 31)
}

// I1: of one gate what is named first is told; of two gates what is wrong with the first one.
func TestWrongInOrder(t *testing.T) {
	for i, first := range oddGates() {
		good := gate(5, 5, open(2), 5, 9)
		bad := good
		first.change(&bad)
		wantWrong(t, first.what+" and a port that does not rise", []api.Gate{gate(30, 0, nil), bad}, first.err, 1)
		wantWrong(t, first.what+" behind a port that does not rise", []api.Gate{good, good, bad}, api.ErrForm, 1)
		for _, other := range oddGates() {
			worse := gate(7, 5, open(2), 5, 9)
			other.change(&worse)
			wantWrong(t, first.what+" ahead of "+other.what, []api.Gate{bad, worse}, first.err, 0)
		}
		for _, next := range oddGates()[i:] {
			both := good
			next.change(&both)
			first.change(&both)
			wantWrong(t, first.what+" and "+next.what, []api.Gate{both}, first.err, 0)
		}
	}
}

// I1: way by way: what is wrong with one is told ahead of what is wrong with the next one.
func TestWrongWaysInOrder(t *testing.T) {
	wantWrong(t, "range, then form", []api.Gate{gate(0, 0, nil, 0, 5, 5)}, api.ErrRange, 0)
	wantWrong(t, "form, then range", []api.Gate{gate(0, 0, nil, 5, 5, 0)}, api.ErrForm, 0)
	wantWrong(t, "both of one", []api.Gate{gate(0, 0, nil, 5, 0, 6)}, api.ErrRange, 0)
	wantWrong(t, "form, then range", []api.Gate{gate(0, 0, nil, 5, 4, 4095)}, api.ErrForm, 0)
	wantWrong(t, "range, then form", []api.Gate{gate(0, 0, nil, 5, 4095, 6)}, api.ErrRange, 0)
}

// I1: gates that are often wrong.
func TestWrongOfMany(t *testing.T) {
	next := pick(91)
	faults := map[api.Fault]bool{}
	for range 20000 {
		l := allPorts()[:next(32)]
		for range next(3) {
			if len(l) == 0 {
				break
			}
			g := &l[next(len(l))]
			switch next(5) {
			case 0:
				g.Port = []int{-1, 0, 15, 30, 31}[next(5)]
			case 1:
				g.Plain = []int{-1, 0, 4094, 4095}[next(4)]
			case 2:
				g.Open = make([]bool, 14+next(5))
			case 3:
				g.Ways = []int{next(4), next(5), 4092 + next(4)}[:next(4)]
			case 4:
				l = append(l, l[next(len(l))])
			}
		}
		want := knownWrong(l)
		faults[want] = true
		wantWrong(t, "some", l, want.Err, want.At)
	}
	if len(faults) < 60 {
		t.Errorf("only %d faults were met", len(faults))
	}
}

// I2: to someone unknown a frame leaves by all other gates that its way passes, as they rise.
func TestUnknownLeavesByAllOthers(t *testing.T) {
	onFive, onNine := []int{0, 1, 7, 12, 30}, []int{0, 1, 3, 7, 8, 30}
	for vid, all := range map[int][]int{5: onFive, 9: onNine} {
		for _, port := range all {
			want := slices.DeleteFunc(slices.Clone(all), func(p int) bool { return p == port })
			for _, dst := range []uint64{99, everyone, manyBit, 0x0180C2000010} {
				f := taggedFrame(dst, 8, vid, 3, true)
				wantPorts(t, "unknown", yard(), nil, port, f, want, []api.Entry{entry(vid, 8, port, 0)})
			}
		}
	}
	wantPorts(t, "alone", []api.Gate{gate(4, 5, open(1), 5)}, nil, 4, plainFrame(9, 8), nil, []api.Entry{entry(5, 8, 4, 0)})
}

// I2: the frame that leaves is the one that came, but for its tag.
func TestWhatLeaves(t *testing.T) {
	data := []byte("data")
	plain := api.Frame{Dst: 9, Src: 8, Type: ipType, Data: data}
	tag := func(prio int, drop bool) api.Frame {
		return api.Frame{Dst: 9, Src: 8, Tagged: true, Prio: prio, Drop: drop, VID: 9, Type: ipType, Data: data}
	}
	gates := []api.Gate{gate(0, 9, open(2), 9), gate(1, 5, open(2), 9), gate(2, 0, open(2), 9), gate(3, 9, open(2), 9)}
	leaves := func(f api.Frame) []api.Out {
		return []api.Out{{Port: 1, Frame: f}, {Port: 2, Frame: f}, {Port: 3, Frame: plain}}
	}
	junk := plain
	junk.Prio, junk.Drop, junk.VID = 99, true, -4
	for _, c := range []struct {
		what string
		f    api.Frame
		want []api.Out
	}{
		{"no tag", plain, leaves(tag(0, false))},
		{"no tag, and junk in its place", junk, leaves(tag(0, false))},
		{"a tag", tag(6, true), leaves(tag(6, true))},
		{"a tag, not to be dropped", tag(7, false), leaves(tag(7, false))},
		{"a tag of noughts", tag(0, false), leaves(tag(0, false))},
		{"a tag without a way", taggedFrame(9, 8, 0, 5, true), leaves(tag(5, true))},
	} {
		out, l, err := Relay(hedge(), gates, nil, 0, c.f)
		wantRelay(t, c.what, out, l, err, c.want, []api.Entry{entry(9, 8, 0, 0)}, api.OK)
	}
}

// I2: a frame without a tag, or without a way in it, is of the gate's Plain; else of its own way.
func TestWhichWay(t *testing.T) {
	junk := plainFrame(99, 8)
	junk.VID, junk.Prio, junk.Drop = 9, 3, true
	for _, c := range []struct {
		what string
		port int
		f    api.Frame
		way  int
		want []int
	}{
		{"no tag", 0, plainFrame(99, 8), 5, []int{1, 7, 12, 30}},
		{"no tag, but a VID", 0, junk, 5, []int{1, 7, 12, 30}},
		{"no tag at another gate", 7, plainFrame(99, 8), 9, []int{0, 1, 3, 8, 30}},
		{"a tag without a way", 0, taggedFrame(99, 8, 0, 1, false), 5, []int{1, 7, 12, 30}},
		{"a tag without a way at another gate", 7, taggedFrame(99, 8, 0, 1, false), 9, []int{0, 1, 3, 8, 30}},
		{"a tag", 0, taggedFrame(99, 8, 9, 1, false), 9, []int{1, 3, 7, 8, 30}},
		{"a tag with the gate's Plain", 0, taggedFrame(99, 8, 5, 1, false), 5, []int{1, 7, 12, 30}},
		{"a tag where there is no Plain", 8, taggedFrame(99, 8, 9, 1, false), 9, []int{0, 1, 3, 7, 30}},
	} {
		wantPorts(t, c.what, yard(), nil, c.port, c.f, c.want, []api.Entry{entry(c.way, 8, c.port, 0)})
	}
}

// I2: what has no way, or one that does not pass the gate, goes nowhere, and nobody is learnt.
func TestWhatDoesNotComeIn(t *testing.T) {
	for _, c := range []struct {
		what string
		port int
		f    api.Frame
	}{
		{"no way", 1, plainFrame(99, 8)},
		{"no way, but a tag", 1, taggedFrame(99, 8, 0, 7, true)},
		{"no way of the gate", 0, taggedFrame(99, 8, 77, 0, false)},
		{"none of its ways", 8, taggedFrame(99, 8, 5, 0, false)},
		{"Plain is none of its ways", 12, plainFrame(99, 8)},
		{"Plain is none of its ways, open on all", 30, plainFrame(99, 8)},
		{"shut on that tree", 3, taggedFrame(99, 8, 5, 0, false)},
		{"not open on so many trees", 12, taggedFrame(99, 8, 9, 0, false)},
		{"open on no tree", 29, taggedFrame(99, 8, 9, 0, false)},
		{"open on no tree, the first one", 29, taggedFrame(99, 8, 5, 0, false)},
		{"to someone known", 3, taggedFrame(10, 12, 5, 0, false)},
		{"of someone known", 29, taggedFrame(99, 12, 5, 0, false)},
	} {
		for _, l := range [][]api.Entry{nil, someBook(), fullBook()} {
			wantPorts(t, c.what, yard(), l, c.port, c.f, nil, l)
		}
	}
}

// I1: a way passes by its own tree, whatever other trees are.
func TestPassesByTree(t *testing.T) {
	for vid, tree := range map[int]int{1: 0, 5: 0, 8: 0, 9: 1, 10: 0, 4093: 0, 4094: 15} {
		for n := range 17 {
			for odd := -1; odd < n; odd++ {
				shut := make([]bool, n)
				most := open(n)
				if odd >= 0 {
					shut[odd], most[odd] = true, false
				}
				for _, doors := range [][]bool{shut, most} {
					lets := tree < n && doors[tree]
					gates := []api.Gate{gate(2, 0, open(16), vid), gate(6, 0, doors, vid)}
					var out, in []int
					if lets {
						out, in = []int{6}, []int{2}
					}
					learnt := []api.Entry{entry(vid, 8, 2, 0)}
					wantPorts(t, "out by it", gates, nil, 2, taggedFrame(99, 8, vid, 0, false), out, learnt)
					learnt[0].Port = 6
					if !lets {
						learnt = nil
					}
					wantPorts(t, "in by it", gates, nil, 6, taggedFrame(99, 8, vid, 0, false), in, learnt)
				}
			}
		}
	}
}

// I1: each way passes that a gate has, and no other one.
func TestPassesByWay(t *testing.T) {
	for vid := 1; vid <= 4094; vid++ {
		f := taggedFrame(99, 8, vid, 0, false)
		learnt := []api.Entry{entry(vid, 8, 1, 0)}
		gates := []api.Gate{gate(1, 0, open(16), vid), gate(2, 0, open(16), vid)}
		wantPorts(t, "its way", gates, nil, 1, f, []int{2}, learnt)
		gates[1].Ways = slices.DeleteFunc(rising(4094), func(w int) bool { return w == vid })
		wantPorts(t, "out by another way", gates, nil, 1, f, nil, learnt)
		wantPorts(t, "in by another way", gates, nil, 2, f, nil, nil)
	}
}

// I2: what is sent to a bridge itself goes no farther, and nobody is learnt by it.
func TestReserved(t *testing.T) {
	for _, l := range [][]api.Entry{nil, someBook(), {entry(5, 0x0180C2000003, 1, 4)}} {
		for n := range uint64(16) {
			for _, port := range []int{0, 1, 7} {
				wantPorts(t, "reserved", yard(), l, port, taggedFrame(0x0180C2000000+n, 8, 5, 1, false), nil, l)
			}
		}
	}
	for _, dst := range []uint64{0x0180C1FFFFFF, 0x0180C2000010, 0x0180C2000011, 0x0080C2000000, 0x0180C2010000, 0x1180C2000003, 0, everyone} {
		wantPorts(t, "beside them", yard(), nil, 0, plainFrame(dst, 8), []int{1, 7, 12, 30}, []api.Entry{entry(5, 8, 0, 0)})
	}
}

// I2: to someone who was seen a frame leaves there alone, if it may.
func TestKnownLeavesThere(t *testing.T) {
	for _, c := range []struct {
		what      string
		vid, port int
		dst       uint64
		want      []int
	}{
		{"seen at a gate", 5, 0, 10, []int{1}},
		{"seen at the last gate", 5, 7, 12, []int{30}},
		{"seen where it comes in", 5, 1, 10, nil},
		{"seen at a gate that is shut", 5, 0, 11, nil},
		{"seen where no gate is", 5, 0, 13, nil},
		{"seen elsewhere on another way", 9, 0, 10, []int{3}},
		{"seen at a gate that is not open on so many trees", 9, 0, 11, nil},
		{"seen on another way alone", 9, 0, 12, []int{1, 3, 7, 8, 30}},
		{"seen on another way alone", 5, 0, 14, []int{1, 7, 12, 30}},
	} {
		l := someBook()
		at, _ := slices.BinarySearchFunc(l, c.vid, func(e api.Entry, vid int) int { return e.VID - vid })
		want := slices.Insert(slices.Clone(l), at, entry(c.vid, 8, c.port, 0))
		wantPorts(t, c.what, yard(), l, c.port, taggedFrame(c.dst, 8, c.vid, 2, true), c.want, want)
	}
	wantPorts(t, "seen at port 0", yard(), []api.Entry{entry(5, 10, 0, 300)}, 1, taggedFrame(10, 18, 5, 0, false), []int{0}, []api.Entry{entry(5, 10, 0, 300), entry(5, 18, 1, 0)})
	gates := []api.Gate{gate(0, 5, open(1), 5), gate(1, 5, open(1), 5), gate(2, 5, open(1), 6)}
	wantPorts(t, "seen at a gate of other ways", gates, []api.Entry{entry(5, 10, 2, 1)}, 0, plainFrame(10, 18), nil, []api.Entry{entry(5, 10, 2, 1), entry(5, 18, 0, 0)})
}

// I2: a book that is handed in may have an address of many; it tells then where that was seen.
func TestManyThatIsInTheBook(t *testing.T) {
	l := []api.Entry{entry(5, everyone, 1, 4)}
	wantPorts(t, "of many", yard(), l, 0, plainFrame(everyone, 8), []int{1}, []api.Entry{entry(5, 8, 0, 0), entry(5, everyone, 1, 4)})
}

// I2: the book learns ahead of being asked: who sends to itself is found where it sends from.
func TestLearnsFirst(t *testing.T) {
	for _, l := range [][]api.Entry{nil, {entry(5, 8, 1, 20)}, {entry(5, 8, 0, 20)}} {
		wantPorts(t, "to itself", yard(), l, 0, plainFrame(8, 8), nil, []api.Entry{entry(5, 8, 0, 0)})
	}
}

// I2: who was seen elsewhere is seen here now, and nothing else in the book grows younger.
func TestLearnsWhoMoves(t *testing.T) {
	l := someBook()
	want := slices.Clone(l)
	want[0] = entry(5, 10, 0, 0)
	wantPorts(t, "moves", yard(), l, 0, plainFrame(99, 10), []int{1, 7, 12, 30}, want)
	want[0] = l[0]
	want[2] = entry(5, 12, 30, 0)
	wantPorts(t, "stays", yard(), l, 30, taggedFrame(10, 12, 5, 0, false), []int{1}, want)
}

// I2: a full book takes nobody new, and tells what it knows all the same.
func TestFullBook(t *testing.T) {
	l := fullBook()
	for _, src := range []uint64{0, 99, 105, 1<<40 - 1} {
		wantPorts(t, "new, to someone unknown", yard(), l, 0, plainFrame(everyone, src), []int{1, 7, 12, 30}, l)
		wantPorts(t, "new, to someone known", yard(), l, 0, plainFrame(110, src), []int{1}, l)
		wantPorts(t, "new, on another way", yard(), l, 0, taggedFrame(110, src, 9, 0, false), []int{1, 3, 7, 8, 30}, l)
		wantPorts(t, "new, to itself", yard(), l, 0, plainFrame(src, src), []int{1, 7, 12, 30}, l)
	}
	want := slices.Clone(l)
	want[29] = entry(5, 390, 0, 0)
	wantPorts(t, "known", yard(), l, 0, plainFrame(110, 390), []int{1}, want)
	wantPorts(t, "the thirtieth", yard(), l[:29], 0, plainFrame(110, 500), []int{1}, append(slices.Clone(l[:29]), entry(5, 500, 0, 0)))
}

// I2: two talk, and are found by what was learnt.
func TestAnswersFindTheirWay(t *testing.T) {
	var l []api.Entry
	step := func(port int, f api.Frame, want []int) {
		t.Helper()
		out, m, err := Relay(hedge(), yard(), l, port, f)
		if !slices.Equal(ports(out), want) || err != api.OK {
			t.Errorf("%v at %d: %v, %v comes, not %v", f, port, out, err, want)
		}
		l = m
	}
	step(0, plainFrame(20, 10), []int{1, 7, 12, 30})
	step(7, taggedFrame(10, 20, 5, 0, false), []int{0})
	step(0, plainFrame(20, 10), []int{7})
	step(1, taggedFrame(10, 20, 5, 0, false), []int{0})
	step(0, plainFrame(20, 10), []int{1})
	step(0, taggedFrame(20, 10, 9, 0, false), []int{1, 3, 7, 8, 30})
	step(7, plainFrame(10, 20), []int{0})
	l = book.Old(l, 301)
	step(0, plainFrame(20, 10), []int{1, 7, 12, 30})
}

// I2: no gate has that port.
func TestNoSuchPort(t *testing.T) {
	f := plainFrame(99, 8)
	for _, port := range []int{math.MinInt, -1 << 32, -1, 2, 4, 6, 9, 28, 31, 1 << 32, math.MaxInt} {
		wantErr(t, "none", hedge(), yard(), someBook(), port, f, api.ErrNone)
	}
	for port := -1; port < 32; port++ {
		wantErr(t, "no gate", hedge(), nil, someBook(), port, f, api.ErrNone)
	}
	wantErr(t, "reserved all the same", hedge(), yard(), nil, 2, plainFrame(0x0180C2000000, 8), api.ErrNone)
}

// oddPart is one way in which what is handed to Relay is wrong.
type oddPart struct {
	what   string
	change func(*handed)
	err    api.Errno
}

type handed struct {
	r     api.Region
	gates []api.Gate
	l     []api.Entry
	port  int
	f     api.Frame
}

func goodHanded() handed {
	return handed{hedge(), yard(), someBook(), 0, plainFrame(10, 8)}
}

// oddParts stand by what they are wrong with, as I2 names it.
func oddParts() [][]oddPart {
	var gates []oddPart
	for _, odd := range oddGates() {
		for i := range yard() {
			gates = append(gates, oddPart{odd.what, func(h *handed) { odd.change(&h.gates[i]) }, odd.err})
		}
	}
	gates = append(gates, oddPart{"ports", func(h *handed) { h.gates[7].Port = 29 }, api.ErrForm})
	return [][]oddPart{
		{
			{"name", func(h *handed) { h.r.Name = "" }, api.ErrName},
			{"revision", func(h *handed) { h.r.Revision = -1 }, api.ErrRange},
			{"trees", func(h *handed) { h.r.Ways = []api.Way{{VID: 5, Tree: 16}} }, api.ErrRange},
			{"ways of trees", func(h *handed) { h.r.Ways = []api.Way{{VID: 5, Tree: 1}, {VID: 5, Tree: 1}} }, api.ErrForm},
		},
		gates,
		{
			{"entries", func(h *handed) { h.l = make([]api.Entry, 31) }, api.ErrMany},
			{"an entry", func(h *handed) { h.l[3].Age = 301 }, api.ErrRange},
			{"entries' order", func(h *handed) { h.l[3] = h.l[2] }, api.ErrForm},
		},
		{
			{"Dst", func(h *handed) { h.f.Dst = 1 << 48 }, api.ErrRange},
			{"Src", func(h *handed) { h.f.Src = 1 << 48 }, api.ErrRange},
			{"Src of many", func(h *handed) { h.f.Src = manyBit }, api.ErrFit},
			{"VID", func(h *handed) { h.f.Tagged, h.f.VID = true, 4095 }, api.ErrRange},
			{"Prio", func(h *handed) { h.f.Tagged, h.f.Prio = true, 8 }, api.ErrRange},
			{"Type", func(h *handed) { h.f.Type = 0x05FF }, api.ErrKind},
			{"Data", func(h *handed) { h.f.Data = make([]byte, 1501) }, api.ErrMuch},
		},
		{
			{"port", func(h *handed) { h.port = 2 }, api.ErrNone},
		},
	}
}

// I2 and Z4: what is wrong is told in turn: region, gates, book, frame, port; and nothing beside it.
func TestRelayErrorsInOrder(t *testing.T) {
	ask := func(what string, want api.Errno, parts ...oddPart) {
		t.Helper()
		h := goodHanded()
		for _, p := range parts {
			p.change(&h)
		}
		wantErr(t, what, h.r, h.gates, h.l, h.port, h.f, want)
	}
	all := oddParts()
	for i, group := range all {
		for _, first := range group {
			ask(first.what, first.err, first)
			for _, behind := range all[i+1:] {
				for _, next := range behind {
					ask(first.what+" and "+next.what, first.err, first, next)
				}
			}
		}
	}
}

// I2 and Z4: what is wrong is told though nothing would leave.
func TestErrorsAheadOfNothing(t *testing.T) {
	f := plainFrame(0x0180C2000000, 8)
	wantErr(t, "region", api.Region{}, yard(), nil, 0, f, api.ErrName)
	wantErr(t, "book", hedge(), yard(), make([]api.Entry, 1), 0, f, api.ErrRange)
	f.Type = api.TagType
	wantErr(t, "frame", hedge(), yard(), nil, 0, f, api.ErrKind)
	wantErr(t, "no gates", api.Region{}, nil, nil, 0, f, api.ErrName)
}

// I2: data of each size, at the ends too, leaves whole.
func TestDataLeavesWhole(t *testing.T) {
	for _, size := range []int{0, 1, 2, 45, 46, 1499, 1500} {
		f := plainFrame(99, 8)
		f.Data = nil
		for i := range size {
			f.Data = append(f.Data, byte(i*7))
		}
		for _, typ := range []int{0x0600, ipType, 0x80FF, 0x8101, 0xFFFF} {
			f.Type = typ
			out := wantKnown(t, "data", hedge(), yard(), nil, 0, f)
			if len(out) != 4 {
				t.Errorf("%d bytes of type %x: %v leaves", size, typ, out)
			}
		}
	}
}

// someRegion has some of ways 3 to 8 named.
func someRegion(next func(int) int) api.Region {
	r := api.Region{Name: "some"}
	for vid := 3; vid < 9; vid++ {
		if next(2) == 0 {
			r.Ways = append(r.Ways, api.Way{VID: vid, Tree: 1 + next(3)})
		}
	}
	return r
}

func someGates(next func(int) int) []api.Gate {
	var l []api.Gate
	for port := next(3); port < 31; port += 1 + next(6) {
		g := gate(port, next(10), nil)
		for vid := 3; vid < 9; vid++ {
			if next(4) > 0 {
				g.Ways = append(g.Ways, vid)
			}
		}
		for range 1 + next(4) {
			g.Open = append(g.Open, next(5) > 0)
		}
		l = append(l, g)
	}
	return l
}

func someFrame(next func(int) int) api.Frame {
	f := plainFrame(uint64(next(12)), uint64(next(12)))
	if next(8) == 0 {
		f.Dst = []uint64{everyone, 0x0180C2000000, 0x0180C200000F, 0x0180C2000010}[next(4)]
	}
	f.Tagged, f.VID, f.Prio, f.Drop = next(3) > 0, next(9), next(8), next(2) == 0
	f.Data = f.Data[:next(5)]
	return f
}

// I1 and I2: many frames by many gates, with a book that grows, are what the other means tell.
func TestRelaysOfMany(t *testing.T) {
	next := pick(92)
	left, full := map[int]int{}, 0
	for range 400 {
		r, gates := someRegion(next), someGates(next)
		var l []api.Entry
		for range 150 {
			port := next(31)
			if next(8) > 0 {
				port = gates[next(len(gates))].Port
			}
			f := someFrame(next)
			if len(l) == 30 {
				full++
			}
			left[len(wantKnown(t, "some", r, gates, l, port, f))]++
			if _, m, err := Relay(r, gates, l, port, f); err == api.OK {
				l = m
			}
		}
	}
	if left[0] < 1000 || left[1] < 1000 || left[3] < 1000 || left[6] < 100 || full < 1000 {
		t.Errorf("too few to tell: %v left, %d times the book was full", left, full)
	}
}

// Z3: nil and lists without entries are the same, wherever they are handed in.
func TestNilIsEmpty(t *testing.T) {
	r := hedge()
	r.Ways = nil
	gates := []api.Gate{gate(0, 5, open(1), 5), gate(1, 0, nil, 5), gate(2, 5, open(1)), gate(3, 0, open(1), 5)}
	for _, ways := range [][]api.Way{nil, {}, hedge().Ways[:0], hedge().Ways[2:]} {
		r.Ways = ways
		for _, none := range [][]bool{nil, {}, open(3)[:0], open(3)[3:]} {
			gates[1].Open = none
			for _, noWays := range [][]int{nil, {}, []int{5}[:0], []int{5}[1:]} {
				gates[2].Ways = noWays
				for _, l := range [][]api.Entry{nil, {}, someBook()[:0], someBook()[7:]} {
					for _, data := range [][]byte{nil, {}, []byte("x")[:0], []byte("x")[1:]} {
						f := plainFrame(9, 8)
						f.Data = data
						want := []api.Out{{Port: 3, Frame: api.Frame{Dst: 9, Src: 8, Tagged: true, VID: 5, Type: ipType}}}
						out, m, err := Relay(r, gates, l, 0, f)
						wantRelay(t, "empty", out, m, err, want, []api.Entry{entry(5, 8, 0, 0)}, api.OK)
						out, m, err = Relay(r, gates, l, 1, f)
						wantRelay(t, "shut", out, m, err, nil, nil, api.OK)
						out, m, err = Relay(r, gates, l, 2, f)
						wantRelay(t, "no ways", out, m, err, nil, nil, api.OK)
					}
				}
			}
		}
	}
	for _, none := range [][]api.Gate{nil, {}, yard()[:0], yard()[8:]} {
		wantWrong(t, "no gates", none, api.OK, 0)
		wantErr(t, "no gates", hedge(), none, nil, 0, plainFrame(9, 8), api.ErrNone)
	}
}

// spaced is l, with something ahead of it and behind it.
func spaced[T any](l []T, x T) (whole, part []T) {
	whole = append([]T{x}, l...)
	whole = append(whole, x, x, x)
	return whole, whole[1 : 1+len(l)]
}

// fill takes the spare room too.
func fill[T any](l []T, x T) {
	l = l[:cap(l)]
	for i := range l {
		l[i] = x
	}
}

// lent is what is handed to Relay, and the whole of each list, of which that has a part.
type lent struct {
	handed
	wholeTrees []api.Way
	wholeGates []api.Gate
	wholeBook  []api.Entry
	wholeData  []byte
	wholeWays  [][]int
	wholeOpen  [][]bool
}

// lend puts beside each list what would tell, if it were looked at.
func lend(h handed) lent {
	var n lent
	h.gates = slices.Clone(h.gates)
	for i := range h.gates {
		g := &h.gates[i]
		ways, ofWays := spaced(g.Ways, 4094)
		doors, ofOpen := spaced(g.Open, true)
		g.Ways, g.Open = ofWays, ofOpen
		n.wholeWays, n.wholeOpen = append(n.wholeWays, ways), append(n.wholeOpen, doors)
	}
	n.wholeTrees, h.r.Ways = spaced(h.r.Ways, api.Way{VID: 4094, Tree: 3})
	n.wholeGates, h.gates = spaced(h.gates, gate(2, 5, open(16), 5, 9))
	n.wholeBook, h.l = spaced(h.l, entry(4094, 99, 1, 0))
	n.wholeData, h.f.Data = spaced(h.f.Data, 'j')
	n.handed = h
	return n
}

func (h handed) relay() ([]api.Out, []api.Entry, api.Errno) {
	return Relay(h.r, h.gates, h.l, h.port, h.f)
}

func sameGate(a, b api.Gate) bool {
	return a.Port == b.Port && a.Plain == b.Plain && slices.Equal(a.Ways, b.Ways) && slices.Equal(a.Open, b.Open)
}

// same says whether all that n has, spare room and all, is as in m.
func (n lent) same(m lent) bool {
	return slices.Equal(n.wholeTrees, m.wholeTrees) && slices.EqualFunc(n.wholeGates, m.wholeGates, sameGate) &&
		slices.Equal(n.wholeBook, m.wholeBook) && bytes.Equal(n.wholeData, m.wholeData) &&
		slices.EqualFunc(n.wholeWays, m.wholeWays, slices.Equal[[]int]) && slices.EqualFunc(n.wholeOpen, m.wholeOpen, slices.Equal[[]bool])
}

// spoil is what whoever handed it in may do behind the call.
func (n lent) spoil() {
	for i := range n.wholeWays {
		fill(n.wholeWays[i], -1)
		fill(n.wholeOpen[i], false)
	}
	fill(n.wholeTrees, api.Way{VID: -1, Tree: -1})
	fill(n.wholeGates, gate(-1, -1, nil))
	fill(n.wholeBook, entry(-1, math.MaxUint64, -1, -1))
	fill(n.wholeData, '!')
}

// asked is what Z2 is asked of: something leaves, or nothing; someone is learnt, or nobody.
func asked() []handed {
	var l []handed
	for _, known := range [][]api.Entry{nil, someBook(), fullBook()} {
		for _, port := range []int{0, 1, 3, 7, 29, 2} {
			for _, f := range []api.Frame{
				plainFrame(99, 8), taggedFrame(99, 8, 5, 3, true), taggedFrame(10, 8, 5, 3, true), taggedFrame(10, 11, 9, 3, true), taggedFrame(99, 8, 4094, 3, true),
				plainFrame(0x0180C2000000, 8), taggedFrame(8, 8, 9, 0, false), {Dst: 9, Src: 8, Type: ipType},
			} {
				l = append(l, handed{hedge(), yard(), known, port, f})
			}
		}
	}
	return l
}

// Z2: neither a list nor the spare room behind it is changed, or looked at, or kept; what is answered is new memory, its spare room too.
func TestOnlyReadAndAnswersNew(t *testing.T) {
	for _, h := range asked() {
		n, kept := lend(h), lend(h)
		wantOut, wantBook, wantErrno := knownRelay(h.r, h.gates, h.l, h.port, h.f)
		out, l, err := n.relay()
		again, m, errAgain := n.relay()
		wantRelay(t, "lent", out, l, err, wantOut, wantBook, wantErrno)
		if !n.same(kept) {
			t.Errorf("%v is changed to %v", kept, n)
		}
		for _, o := range out {
			fill(o.Frame.Data, '?')
		}
		fill(out, api.Out{Port: 99})
		fill(l, entry(9999, 9999, 9999, 9999))
		if !n.same(kept) {
			t.Errorf("an answer shares memory with what was handed in: %v", n)
		}
		wantRelay(t, "beside another answer", again, m, errAgain, wantOut, wantBook, wantErrno)
		n.spoil()
		wantRelay(t, "kept", again, m, errAgain, wantOut, wantBook, wantErrno)
		out, l, err = h.relay()
		wantRelay(t, "asked again", out, l, err, wantOut, wantBook, wantErrno)
	}
}

// Z2: no two frames of one answer share their data.
func TestFramesShareNothing(t *testing.T) {
	for _, h := range asked() {
		out, _, _ := h.relay()
		for i := range out {
			kept := cloneOut(out)
			fill(out[i].Frame.Data, byte('a'+i))
			kept[i] = out[i]
			if !slices.EqualFunc(out, kept, sameOut) {
				t.Errorf("frame %d shares its data: %v comes of %v", i, out, kept)
			}
		}
	}
}

// Z2: Wrong changes nothing, and looks at nothing behind a list.
func TestWrongOnlyReads(t *testing.T) {
	for i := range yard() {
		h := goodHanded()
		h.gates[i].Ways = []int{5, 0}
		n, kept := lend(h), lend(h)
		wantWrong(t, "ahead of it", n.gates[:i], api.OK, 0)
		wantWrong(t, "with it", n.gates[:i+1], api.ErrRange, i)
		n.gates[i].Ways = n.gates[i].Ways[:1]
		kept.gates[i].Ways = kept.gates[i].Ways[:1]
		wantWrong(t, "behind its ways", n.gates, api.OK, 0)
		if !n.same(kept) {
			t.Errorf("%v is changed to %v", kept, n)
		}
	}
}

// Z1: what is answered hangs on nothing but the arguments, whoever else asks at the same time.
func TestManyAskAtOnce(t *testing.T) {
	h := goodHanded()
	var all sync.WaitGroup
	for i := range 8 {
		all.Go(func() {
			for range 50 {
				wantWrong(t, "at once", h.gates, api.OK, 0)
				wantKnown(t, "at once", h.r, h.gates, h.l, h.gates[i].Port, taggedFrame(uint64(8+i), 8, 5+4*(i%2), i, true))
				wantKnown(t, "at once", h.r, h.gates, h.l, h.gates[i].Port, h.f)
			}
		})
	}
	all.Wait()
}

// askAll asks for what must come of arguments that may be wrong.
func askAll(t *testing.T, h handed) {
	t.Helper()
	fault := knownWrong(h.gates)
	wantWrong(t, "any", h.gates, fault.Err, fault.At)
	for _, err := range []api.Errno{region.Wrong(h.r), fault.Err, book.Wrong(h.l).Err, frame.Wrong(h.f)} {
		if err != api.OK {
			wantErr(t, "any", h.r, h.gates, h.l, h.port, h.f, err)
			return
		}
	}
	wantKnown(t, "any", h.r, h.gates, h.l, h.port, h.f)
}

// Z1: nothing panics, whatever numbers there are.
func TestNothingPanics(t *testing.T) {
	numbers := []int{math.MinInt, -1 << 32, -1, 0, 1, 5, 15, 16, 30, 31, 4094, 4095, 1 << 48, math.MaxInt}
	for _, n := range numbers {
		for _, m := range numbers {
			h := goodHanded()
			h.gates[1] = gate(n, m, open(2), n, m)
			askAll(t, h)
			h.gates[1] = gate(1, 5, open(2), m, n)
			h.port = n
			askAll(t, h)
			h = goodHanded()
			h.r.Ways = []api.Way{{VID: n, Tree: m}}
			h.f = taggedFrame(uint64(n), uint64(m), 5, 0, false)
			askAll(t, h)
			h = goodHanded()
			h.f = taggedFrame(10, 8, n, m, true)
			askAll(t, h)
			h.f = plainFrame(uint64(n), 8)
			h.f.VID, h.f.Prio, h.f.Drop, h.port = n, m, true, m
			askAll(t, h)
			h.l = []api.Entry{entry(n, uint64(m), m, n), entry(5, 10, n, m)}
			askAll(t, h)
		}
	}
}

// I1 and I2: whatever two gates and one entry there are.
func FuzzRelay(f *testing.F) {
	f.Add(0, 5, 5, uint16(3), 1, 0, 5, uint16(1), 5, uint64(10), 1, 4, 0, uint64(10), uint64(8), true, 5, 3, 5, 1)
	f.Add(0, 9, 9, uint16(2), 30, 9, 9, uint16(2), 9, uint64(10), 1, 300, 30, uint64(99), uint64(8), false, 99, 99, 9, 1)
	f.Add(-1, 4095, 0, uint16(0), 31, -1, 4095, uint16(0), 0, uint64(1<<48), 31, 301, 31, uint64(1<<48), uint64(manyBit), true, -1, -1, 0, 16)
	f.Add(3, 0, 4094, uint16(1<<15), 4, 4094, 4094, uint16(1<<15), 4094, uint64(7), 4, 0, 3, uint64(0x0180C200000F), uint64(0), true, 4094, 7, 4094, 15)
	f.Fuzz(func(t *testing.T, portA, plainA, wayA int, openA uint16, portB, plainB, wayB int, openB uint16, vid int, addr uint64, seen, age int, port int, dst, src uint64, tagged bool, frameVID, prio int, regionVID, tree int) {
		bits := func(n uint16) []bool {
			var l []bool
			for ; n > 0; n >>= 1 {
				l = append(l, n&1 == 1)
			}
			return l
		}
		h := handed{
			r:     api.Region{Name: "any", Ways: []api.Way{{VID: regionVID, Tree: tree}}},
			gates: []api.Gate{gate(portA, plainA, bits(openA), wayA), gate(portB, plainB, bits(openB), wayA, wayB)},
			l:     []api.Entry{entry(vid, addr, seen, age)},
			port:  port,
			f:     taggedFrame(dst, src, frameVID, prio, age%2 == 0),
		}
		h.f.Tagged = tagged
		askAll(t, h)
	})
}
