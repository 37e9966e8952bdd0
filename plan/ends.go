package plan

import (
	"bytes"
	"cmp"
	"slices"

	"hedgerow/api"
	"hedgerow/number"
	"hedgerow/region"
	"hedgerow/vec"
)

// End is where a link ends at a bridge, and what is at the other side.
type End struct {
	Port, Cost       int
	Other, OtherPort int
	Live             bool
}

// EndsAmong makes a function that has, by the bridges of l, the ends of links between them, as the ports rise.
// It holds what tells the bridges' regions from each other: to reckon that is much work, and links change where regions do not.
func EndsAmong(l []api.Bridge) func(links []api.Link) [][]End {
	idents := identsOf(l)
	isBridge := func(i int) bool { return number.Within(i, 0, len(idents)-1) }
	return func(links []api.Link) [][]End {
		ends := make([][]End, len(idents))
		for _, k := range links {
			if !isBridge(k.A) || !isBridge(k.B) {
				continue
			}
			live := k.Up && bytes.Equal(idents[k.A], idents[k.B])
			ends[k.A] = append(ends[k.A], End{Port: k.PortA, Cost: k.Cost, Other: k.B, OtherPort: k.PortB, Live: live})
			ends[k.B] = append(ends[k.B], End{Port: k.PortB, Cost: k.Cost, Other: k.A, OtherPort: k.PortA, Live: live})
		}
		for _, l := range ends {
			slices.SortStableFunc(l, func(a, b End) int { return cmp.Compare(a.Port, b.Port) })
		}
		return ends
	}
}

// Ports are the ports of a bridge, rising.
func Ports(links []api.Link, bridge int) []int {
	var ports []int
	for _, k := range links {
		if k.A == bridge {
			ports = append(ports, k.PortA)
		}
		if k.B == bridge {
			ports = append(ports, k.PortB)
		}
	}
	slices.Sort(ports)
	return ports
}

// Heard is what a bridge is offered over its live links; told has, by bridges, what each of them says.
func Heard(ends []End, told []api.Tale) []api.Offer {
	var l []api.Offer
	for _, e := range ends {
		if e.Live && number.Within(e.Other, 0, len(told)-1) {
			v := told[e.Other].Vec
			v.Port = e.OtherPort
			l = append(l, api.Offer{Port: e.Port, Cost: e.Cost, Age: told[e.Other].Age, Vec: v})
		}
	}
	return l
}

// Roles has, by ports, the roles at a bridge that says says, has the root port root, and heard what it was offered.
func Roles(ends []End, says api.Vec, root int, heard []api.Offer) []int {
	roles := make([]int, len(ends))
	for i, e := range ends {
		roles[i] = api.RoleNone
		if e.Live {
			roles[i] = vec.Role(says, root, e.Port, heard)
		}
	}
	return roles
}

// identsOf stands in for asking Same link by link: a digest is much work, and bridges are fewer than links.
func identsOf(l []api.Bridge) [][]byte {
	idents := make([][]byte, len(l))
	for i, b := range l {
		idents[i] = region.Ident(b.Region)
	}
	return idents
}
