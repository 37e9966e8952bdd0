package relay

import (
	"slices"

	"hedgerow/api"
)

// knownWrong is what I1 says, by numbers that are written out.
func knownWrong(l []api.Gate) api.Fault {
	for i, g := range l {
		fault := func(err api.Errno) api.Fault { return api.Fault{Err: err, At: i} }
		if g.Port < 0 || g.Port > 30 || g.Plain < 0 || g.Plain > 4094 {
			return fault(api.ErrRange)
		}
		if len(g.Open) > 16 {
			return fault(api.ErrMany)
		}
		for j, w := range g.Ways {
			if w < 1 || w > 4094 {
				return fault(api.ErrRange)
			}
			if j > 0 && w <= g.Ways[j-1] {
				return fault(api.ErrForm)
			}
		}
		if i > 0 && g.Port <= l[i-1].Port {
			return fault(api.ErrForm)
		}
	}
	return api.Fault{}
}

type wayAndTree struct{ way, tree int }

// doors are the gates of good arguments by other means: by ports, where nothing is in order.
type doors map[int]door

type door struct {
	plain int
	lets  map[wayAndTree]bool
}

func doorsOf(gates []api.Gate) doors {
	all := doors{}
	for _, g := range gates {
		d := door{plain: g.Plain, lets: map[wayAndTree]bool{}}
		for _, w := range g.Ways {
			for tree, open := range g.Open {
				d.lets[wayAndTree{w, tree}] = open
			}
		}
		all[g.Port] = d
	}
	return all
}

type spotKey struct {
	way  int
	addr uint64
}

type spot struct{ port, age int }

func spotsOf(l []api.Entry) map[spotKey]spot {
	m := map[spotKey]spot{}
	for _, e := range l {
		m[spotKey{e.VID, e.Addr}] = spot{e.Port, e.Age}
	}
	return m
}

// written puts each entry ahead of the first one that is not less.
func written(m map[spotKey]spot) []api.Entry {
	var l []api.Entry
	for k, s := range m {
		at := 0
		for at < len(l) && (l[at].VID < k.way || l[at].VID == k.way && l[at].Addr < k.addr) {
			at++
		}
		l = slices.Insert(l, at, entry(k.way, k.addr, s.port, s.age))
	}
	return l
}

// knownRelay is what I2 says of arguments that nothing is wrong with, port by port.
func knownRelay(r api.Region, gates []api.Gate, l []api.Entry, port int, f api.Frame) ([]api.Out, []api.Entry, api.Errno) {
	all, m := doorsOf(gates), spotsOf(l)
	in, there := all[port]
	if !there {
		return nil, nil, api.ErrNone
	}
	over := wayAndTree{way: in.plain}
	if f.Tagged && f.VID > 0 {
		over.way = f.VID
	}
	for _, w := range r.Ways {
		if w.VID == over.way {
			over.tree = w.Tree
		}
	}
	if over.way == 0 || !in.lets[over] || f.Dst>>4 == 0x0180C200000 {
		return nil, written(m), api.OK
	}
	src := spotKey{over.way, f.Src}
	if _, known := m[src]; known || len(m) < 30 {
		m[src] = spot{port: port}
	}
	var out []api.Out
	at, known := m[spotKey{over.way, f.Dst}]
	for p := range 31 {
		d, there := all[p]
		if !there || p == port || !d.lets[over] || known && at.port != p {
			continue
		}
		g := api.Frame{Dst: f.Dst, Src: f.Src, Type: f.Type, Data: slices.Clone(f.Data)}
		if d.plain != over.way {
			g.Tagged, g.VID = true, over.way
			g.Drop = f.Tagged && f.Drop
			if f.Tagged {
				g.Prio = f.Prio
			}
		}
		out = append(out, api.Out{Port: p, Frame: g})
	}
	return out, written(m), api.OK
}

// pick is a row of numbers that hang on seed alone.
func pick(seed uint64) func(n int) int {
	return func(n int) int {
		seed = seed*6364136223846793005 + 1442695040888963407
		return int((seed >> 33) % uint64(n))
	}
}
