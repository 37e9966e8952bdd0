package plan

import (
	"math"
	"reflect"
	"slices"
	"testing"

	"hedgerow/api"
)

// F2: the ports of a bridge are those where links end, rising, whichever end it is, live or not.
func TestPorts(t *testing.T) {
	n := ring()
	n.Links[0].Up = false
	for i, want := range [][]int{{2, 8}, {2, 3, 5}, {4, 7}, {2, 6, 9}} {
		if got := Ports(n.Links, i); !slices.Equal(got, want) {
			t.Errorf("bridge %d: %v comes, not %v", i, got, want)
		}
	}
	for _, i := range []int{-1, 4, math.MinInt, math.MaxInt} {
		if got := Ports(n.Links, i); len(got) != 0 {
			t.Errorf("bridge %d: %v comes", i, got)
		}
	}
	if got := Ports(nil, 0); len(got) != 0 {
		t.Errorf("%v comes of no links", got)
	}
}

// F2: ends stand by ports, with what is at the other side; the same function tells of links that have changed.
func TestEndsAmong(t *testing.T) {
	n := ring()
	n.Bridges[3].Region.Revision = 8
	endsAmong := EndsAmong(n.Bridges)
	clear(n.Bridges)
	want := [][]End{
		{{2, 10, 1, 3, true}, {8, 40, 3, 9, false}},
		{{2, 25, 3, 2, false}, {3, 10, 0, 2, true}, {5, 20, 2, 4, true}},
		{{4, 20, 1, 5, true}, {7, 30, 3, 6, false}},
		{{2, 25, 1, 2, false}, {6, 30, 2, 7, false}, {9, 40, 0, 8, false}},
	}
	if got := endsAmong(n.Links); !reflect.DeepEqual(got, want) {
		t.Errorf("%v comes, not %v", got, want)
	}
	n.Links[0].Up, n.Links[1].Cost = false, 99
	want[0][0].Live, want[1][1].Live = false, false
	want[1][2].Cost, want[2][0].Cost = 99, 99
	if got := endsAmong(n.Links); !reflect.DeepEqual(got, want) {
		t.Errorf("changed: %v comes, not %v", got, want)
	}
}

// F3: over each live end the other one's vector, with the other port, and its age; over others nothing.
func TestHeard(t *testing.T) {
	ends := []End{{3, 6, 1, 4, true}, {5, 7, 0, 9, false}, {8, 2, 0, 1, true}}
	told := []api.Tale{{Tree: 3, Vec: api.Vec{Root: 5, Cost: 2, Bridge: 7, Port: 30}, Age: 4}, {Vec: api.Vec{Root: 1, Bridge: 1}}}
	want := []api.Offer{
		{Port: 3, Cost: 6, Vec: api.Vec{Root: 1, Bridge: 1, Port: 4}},
		{Port: 8, Cost: 2, Age: 4, Vec: api.Vec{Root: 5, Cost: 2, Bridge: 7, Port: 1}},
	}
	if got := Heard(ends, told); !slices.Equal(got, want) {
		t.Errorf("%+v comes, not %+v", got, want)
	}
	if told[0].Vec.Port != 30 {
		t.Error("what was told is changed")
	}
}

// F3: roles by ends, none where the link is not live, even of the root port.
func TestRoles(t *testing.T) {
	ends := []End{{Port: 1, Live: true}, {Port: 2}, {Port: 3, Live: true}, {Port: 4, Live: true}}
	heard := []api.Offer{{Port: 2, Vec: api.Vec{Root: 1}}, {Port: 3, Vec: api.Vec{Root: 1}}, {Port: 4, Vec: api.Vec{Root: 9}}}
	for root, want := range map[int][]int{1: {1, 0, 3, 2}, 2: {2, 0, 3, 2}, 3: {2, 0, 1, 2}, -1: {2, 0, 3, 2}} {
		if got := Roles(ends, api.Vec{Root: 5, Bridge: 5}, root, heard); !slices.Equal(got, want) {
			t.Errorf("root port %d: %v comes, not %v", root, got, want)
		}
	}
}

func TestIsPriority(t *testing.T) {
	for n := -70000; n <= 70000; n++ {
		if got, want := IsPriority(n), n >= 0 && n <= 61440 && n&4095 == 0; got != want {
			t.Errorf("%d: %v comes", n, got)
		}
	}
	if IsPriority(math.MinInt) || IsPriority(math.MaxInt) || !IsPriority(PlainPriority) {
		t.Error("the ends, or the plain one, are not told")
	}
}

// Z1: nothing panics, of links and ends that are none either.
func TestEndsOfNothing(t *testing.T) {
	odd := []int{math.MinInt, -1, 0, 1, 2, math.MaxInt}
	for _, a := range odd {
		for _, b := range odd {
			ends := EndsAmong(make([]api.Bridge, 2))([]api.Link{link(a, b, b, a, a)})
			if good := a>>1 == 0 && b>>1 == 0; good != (len(ends[0])+len(ends[1]) == 2) {
				t.Errorf("%d and %d: %v comes", a, b, ends)
			}
			if l := Heard([]End{{Other: a, OtherPort: b, Live: true}}, make([]api.Tale, 2)); (len(l) == 1) != (a>>1 == 0) {
				t.Errorf("%d: %v comes", a, l)
			}
			Roles([]End{{Port: a, Live: true}}, api.Vec{}, b, nil)
		}
	}
	if len(EndsAmong(nil)([]api.Link{{}})) != 0 || len(Heard(nil, nil)) != 0 || len(Roles(nil, api.Vec{}, 0, nil)) != 0 {
		t.Error("something comes of nothing")
	}
}
