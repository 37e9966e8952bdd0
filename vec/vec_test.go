package vec

import (
	"bytes"
	"encoding/binary"
	"math"
	"math/big"
	"slices"
	"sync"
	"testing"

	"hedgerow/api"
)

func of(root uint64, cost int, bridge uint64, port int) api.Vec {
	return api.Vec{Root: root, Cost: cost, Bridge: bridge, Port: port}
}

// with is something, changed.
func with[T any](x T, change func(*T)) T {
	change(&x)
	return x
}

// plain is an offer that bridges above 5 may take: nothing of it is at an end of its range.
func plain() api.Offer {
	return api.Offer{Port: 4, Cost: 3, Age: 7, Vec: of(5, 200, 9, 8)}
}

// ends are numbers at the ends of what Go has, and some between.
func ends() []int {
	return []int{math.MinInt, -1, 0, 1, 255, 256, api.MaxCost, math.MaxInt}
}

func words() []uint64 {
	return []uint64{0, 1, 255, 256, api.MaxAddr, 1<<63 - 1, 1 << 63, math.MaxUint64}
}

// key is a vector as bytes that stand to each other as the vectors do.
func key(v api.Vec) []byte {
	b := binary.BigEndian.AppendUint64(nil, v.Root)
	b = binary.BigEndian.AppendUint64(b, uint64(v.Cost)^1<<63)
	b = binary.BigEndian.AppendUint64(b, v.Bridge)
	return binary.BigEndian.AppendUint64(b, uint64(v.Port)^1<<63)
}

// sum is what Over says, reckoned with numbers that never wrap round.
func sum(v api.Vec, cost int) (api.Vec, bool) {
	all := new(big.Int).Add(big.NewInt(int64(v.Cost)), big.NewInt(int64(cost)))
	for _, n := range []*big.Int{big.NewInt(int64(v.Cost)), big.NewInt(int64(cost)), all} {
		if n.Sign() < 0 || n.Cmp(big.NewInt(1000000000)) > 0 {
			return api.Vec{}, false
		}
	}
	v.Cost = int(all.Int64())
	return v, true
}

// choice is what Choose answers.
type choice struct {
	vec       api.Vec
	age, port int
}

// chosen is what E2 says: those that may be taken are put in a row, whose first one is the best.
func chosen(id uint64, l []api.Offer) choice {
	type row struct {
		key   []byte
		at    int
		offer api.Offer
		cost  int
	}
	var may []row
	for i, o := range l {
		over, ok := sum(o.Vec, o.Cost)
		if ok && o.Port >= 0 && o.Age >= 0 && o.Age < 20 && o.Vec.Root < id {
			k := binary.BigEndian.AppendUint64(key(over), uint64(o.Port))
			may = append(may, row{binary.BigEndian.AppendUint64(k, uint64(i)), i, o, over.Cost})
		}
	}
	if len(may) == 0 {
		return choice{of(id, 0, id, 0), 0, -1}
	}
	best := slices.MinFunc(may, func(a, b row) int { return bytes.Compare(a.key, b.key) })
	return choice{of(best.offer.Vec.Root, best.cost, id, 0), best.offer.Age + 1, best.offer.Port}
}

// role is what E3 says, by other means.
func role(says api.Vec, root, port int, l []api.Offer) int {
	if root == port {
		return 1
	}
	blocks := func(o api.Offer) bool {
		return o.Port == port && o.Age >= 0 && o.Age <= 20 && bytes.Compare(key(o.Vec), key(of(says.Root, says.Cost, says.Bridge, port))) < 0
	}
	if slices.ContainsFunc(l, blocks) {
		return 3
	}
	return 2
}

// pick is a row of numbers that hang on seed alone.
func pick(seed uint64) func(n int) int {
	return func(n int) int {
		seed = seed*6364136223846793005 + 1442695040888963407
		return int((seed >> 33) % uint64(n))
	}
}

func someVec(next func(int) int) api.Vec {
	return of(uint64(next(3)), next(3), uint64(next(3)), next(3))
}

func someVecs(next func(int) int, n int) []api.Vec {
	l := make([]api.Vec, n)
	for i := range l {
		l[i] = someVec(next)
	}
	return l
}

// someOffers are often the same in much, and sometimes at an end, or beside it.
func someOffers(next func(int) int, n int) []api.Offer {
	l := make([]api.Offer, n)
	for i := range l {
		l[i] = api.Offer{Port: next(4), Cost: next(3), Age: next(3), Vec: someVec(next)}
		switch next(8) {
		case 0:
			l[i].Age = []int{-1, 0, 19, 20, 21}[next(5)]
		case 1:
			l[i].Port = -1
		case 2:
			l[i].Cost = []int{-1, api.MaxCost - 1, api.MaxCost, api.MaxCost + 1}[next(4)]
		case 3:
			l[i].Vec.Cost = []int{-1, api.MaxCost - 1, api.MaxCost, api.MaxCost + 1}[next(4)]
		}
	}
	return l
}

func wantChoice(t *testing.T, what string, id uint64, l []api.Offer, want choice) {
	t.Helper()
	vec, age, port := Choose(id, l)
	if got := (choice{vec, age, port}); got != want {
		t.Errorf("%s: bridge %d chooses %+v, not %+v", what, id, got, want)
	}
}

// wantRoot: the bridge takes none of the offers.
func wantRoot(t *testing.T, what string, id uint64, l []api.Offer) {
	t.Helper()
	wantChoice(t, what, id, l, choice{of(id, 0, id, 0), 0, -1})
}

func wantRole(t *testing.T, what string, says api.Vec, root, port int, l []api.Offer, want int) {
	t.Helper()
	if got := Role(says, root, port, l); got != want {
		t.Errorf("%s: port %d has role %d, not %d", what, port, got, want)
	}
}

// E1: Root, then Cost, then Bridge, then Port; what stands behind the first that differs does not count.
func TestCompareFieldByField(t *testing.T) {
	middle := of(50, 50, 50, 50)
	for what, better := range map[string]api.Vec{
		"root":   of(49, 99, 99, 99),
		"cost":   of(50, 49, 99, 99),
		"bridge": of(50, 50, 49, 99),
		"port":   of(50, 50, 50, 49),
	} {
		if Compare(better, middle) != -1 || Compare(middle, better) != 1 {
			t.Errorf("%s: %d and %d come, not -1 and 1", what, Compare(better, middle), Compare(middle, better))
		}
	}
	if Compare(middle, middle) != 0 {
		t.Errorf("%d comes of the same twice", Compare(middle, middle))
	}
}

// E1: numbers of each size; Root and Bridge have no sign, Cost and Port have one.
func TestCompareOfEnds(t *testing.T) {
	var l []api.Vec
	for _, n := range words() {
		l = append(l, of(n, 1, 1, 1), of(1, 1, n, 1))
	}
	for _, n := range ends() {
		l = append(l, of(1, n, 1, 1), of(1, 1, 1, n))
	}
	for _, a := range l {
		for _, b := range l {
			if got, want := Compare(a, b), bytes.Compare(key(a), key(b)); got != want {
				t.Errorf("%+v and %+v: %d comes, not %d", a, b, got, want)
			}
		}
	}
}

// E1: each two of all vectors of little numbers.
func TestCompareEachTwo(t *testing.T) {
	var l []api.Vec
	for i := range 81 {
		l = append(l, of(uint64(i%3), i/3%3, uint64(i/9%3), i/27))
	}
	for _, a := range l {
		for _, b := range l {
			if got, want := Compare(a, b), bytes.Compare(key(a), key(b)); got != want {
				t.Errorf("%+v and %+v: %d comes, not %d", a, b, got, want)
			}
		}
	}
}

// E1: the cost is added, and all else stays, whatever it is.
func TestOver(t *testing.T) {
	for _, v := range []api.Vec{of(5, 2, 7, 4), of(math.MaxUint64, 2, math.MaxUint64, -9), of(0, 2, 0, math.MaxInt)} {
		got, ok := Over(v, 3)
		if want := of(v.Root, 5, v.Bridge, v.Port); !ok || got != want {
			t.Errorf("%+v: %+v and %v come, not %+v", v, got, ok, want)
		}
	}
}

// E1, Z4: each cost at and beside the ends, with nothing beside false.
func TestOverEachEnd(t *testing.T) {
	costs := append(ends(), 2, api.MaxCost/2, api.MaxCost/2+1, api.MaxCost-1, api.MaxCost+1, 1<<31, 1<<32, 1<<62, math.MaxInt-api.MaxCost, math.MinInt+api.MaxCost)
	for _, a := range costs {
		for _, b := range costs {
			v := of(5, a, 7, 4)
			got, ok := Over(v, b)
			if want, wantOK := sum(v, b); got != want || ok != wantOK {
				t.Errorf("%d over %d: %+v and %v come, not %+v and %v", a, b, got, ok, want, wantOK)
			}
		}
	}
}

// E1: the first of the best ones, wherever it stands.
func TestBest(t *testing.T) {
	bad, good := of(2, 1, 1, 1), of(1, 2, 2, 2)
	for n := range 6 {
		l := slices.Repeat([]api.Vec{bad}, n)
		want := 0
		if n == 0 {
			want = -1
		}
		if got := Best(l); got != want {
			t.Errorf("%d that are the same: %d comes, not %d", n, got, want)
		}
		for i := range l {
			for j := i; j < n; j++ {
				l[i], l[j] = good, good
				if got := Best(l); got != i {
					t.Errorf("of %d, %d and %d are good: %d comes", n, i, j, got)
				}
				l[i], l[j] = bad, bad
			}
		}
	}
}

// E1: none is better than the best, and none ahead of it as good; a single one is the best, whatever it is.
func TestBestOfMany(t *testing.T) {
	next := pick(1)
	for range 300 {
		l := someVecs(next, 1+next(40))
		got := Best(l)
		if got < 0 || got >= len(l) {
			t.Fatalf("%d comes of %d", got, len(l))
		}
		for i, v := range l {
			if c := bytes.Compare(key(v), key(l[got])); c < 0 || c == 0 && i < got {
				t.Errorf("%d comes, not %d: %+v", got, i, l)
			}
		}
	}
	if got := Best([]api.Vec{of(math.MaxUint64, math.MaxInt, math.MaxUint64, math.MaxInt)}); got != 0 {
		t.Errorf("%d comes of the worst one alone", got)
	}
}

// E1: all are there, as often as they were, the better ones first.
func TestSorted(t *testing.T) {
	next := pick(2)
	for n := range 200 {
		l := someVecs(next, n)
		got := Sorted(l)
		count := map[api.Vec]int{}
		for _, v := range l {
			count[v]++
		}
		for i, v := range got {
			count[v]--
			if i > 0 && bytes.Compare(key(got[i-1]), key(v)) > 0 {
				t.Errorf("%+v stands ahead of %+v", got[i-1], v)
			}
		}
		for v, left := range count {
			if left != 0 {
				t.Errorf("of %d: %+v comes %d times too few", n, v, left)
			}
		}
	}
	got := Sorted([]api.Vec{of(2, 5, 3, 1), of(2, 5, 3, 0), of(2, 5, 2, 1), of(2, -1, 3, 1), of(1, 9, 3, 1)})
	if want := []api.Vec{of(1, 9, 3, 1), of(2, -1, 3, 1), of(2, 5, 2, 1), of(2, 5, 3, 0), of(2, 5, 3, 1)}; !slices.Equal(got, want) {
		t.Errorf("%+v comes, not %+v", got, want)
	}
}

// E2: what comes of one offer.
func TestChooseOne(t *testing.T) {
	wantChoice(t, "the document's", 9, []api.Offer{{Cost: 3, Vec: of(5, 2, 7, 1)}}, choice{of(5, 5, 9, 0), 1, 0})
	wantChoice(t, "plain", 6, []api.Offer{plain()}, choice{of(5, 203, 6, 0), 8, 4})
	wantRoot(t, "nothing", 6, nil)
	wantRoot(t, "nothing, least", 0, nil)
	wantRoot(t, "nothing, greatest", math.MaxUint64, nil)
}

// E2: each thing that an offer must have, at the ends of its range and beside them.
func TestMayTake(t *testing.T) {
	for _, c := range []struct {
		what string
		put  func(*api.Offer, int)
		may  []int
		not  []int
	}{
		{"port", func(o *api.Offer, n int) { o.Port = n }, []int{0, 1, 30, 31, math.MaxInt}, []int{-1, math.MinInt}},
		{"age", func(o *api.Offer, n int) { o.Age = n }, []int{0, 1, 19}, []int{-1, 20, 21, 255, math.MinInt, math.MaxInt}},
		{"cost", func(o *api.Offer, n int) { o.Cost = n }, []int{0, 1, api.MaxStep + 1, 999999800}, []int{-1, 999999801, api.MaxCost, math.MinInt, math.MaxInt}},
		{"vector's cost", func(o *api.Offer, n int) { o.Vec.Cost = n }, []int{0, 1, 999999997}, []int{-1, 999999998, api.MaxCost, math.MinInt, math.MaxInt}},
		{"vector's port", func(o *api.Offer, n int) { o.Vec.Port = n }, ends(), nil},
	} {
		for _, n := range c.may {
			o := with(plain(), func(o *api.Offer) { c.put(o, n) })
			wantChoice(t, c.what, 6, []api.Offer{o}, choice{of(5, o.Vec.Cost+o.Cost, 6, 0), o.Age + 1, o.Port})
		}
		for _, n := range c.not {
			o := with(plain(), func(o *api.Offer) { c.put(o, n) })
			wantRoot(t, c.what, 6, []api.Offer{o})
			wantChoice(t, c.what+" beside a worse one", 6, []api.Offer{o, {Port: 9, Cost: 900, Age: 2, Vec: of(5, 1000, 9, 9)}}, choice{of(5, 1900, 6, 0), 3, 9})
		}
	}
}

// E2: a root less than the bridge is taken, and no other one; who offers it does not count.
func TestMayTakeRoots(t *testing.T) {
	for _, id := range words() {
		for _, root := range words() {
			for _, bridge := range words() {
				o := with(plain(), func(o *api.Offer) { o.Vec.Root, o.Vec.Bridge = root, bridge })
				if root < id {
					wantChoice(t, "less", id, []api.Offer{o}, choice{of(root, 203, id, 0), 8, 4})
				} else {
					wantRoot(t, "not less", id, []api.Offer{o})
				}
			}
		}
	}
}

// E2: the vector over its cost is best, then the port is least, then the offer is first: two offers, either way round.
func TestChooseTheBest(t *testing.T) {
	worst := api.Offer{Port: 7, Cost: 10, Age: 3, Vec: of(5, 20, 8, 6)}
	for _, c := range []struct {
		what string
		best api.Offer
	}{
		{"root ahead of all", api.Offer{Port: 9, Cost: 900, Age: 9, Vec: of(4, 900, 9, 9)}},
		{"less cost of the offer", api.Offer{Port: 9, Cost: 9, Age: 9, Vec: of(5, 20, 9, 9)}},
		{"less cost of the vector", api.Offer{Port: 9, Cost: 10, Age: 9, Vec: of(5, 19, 9, 9)}},
		{"less in all, of a dear link", api.Offer{Port: 9, Cost: 29, Age: 9, Vec: of(5, 0, 9, 9)}},
		{"less in all, of a cheap link", api.Offer{Port: 9, Cost: 0, Age: 9, Vec: of(5, 29, 9, 9)}},
		{"bridge, at the same cost", api.Offer{Port: 9, Cost: 25, Age: 9, Vec: of(5, 5, 7, 9)}},
		{"vector's port, at the same bridge", api.Offer{Port: 9, Cost: 5, Age: 9, Vec: of(5, 25, 8, 5)}},
		{"port, at the same vector", api.Offer{Port: 6, Cost: 25, Age: 9, Vec: of(5, 5, 8, 6)}},
	} {
		want := choice{of(c.best.Vec.Root, c.best.Vec.Cost+c.best.Cost, 50, 0), 10, c.best.Port}
		wantChoice(t, c.what+", first", 50, []api.Offer{c.best, worst}, want)
		wantChoice(t, c.what+", last", 50, []api.Offer{worst, c.best}, want)
		wantChoice(t, c.what+", between", 50, []api.Offer{worst, c.best, worst}, want)
	}
	twin := with(worst, func(o *api.Offer) { o.Age, o.Cost, o.Vec.Cost = 1, 20, 10 })
	wantChoice(t, "first of two alike", 50, []api.Offer{worst, twin}, choice{of(5, 30, 50, 0), 4, 7})
	wantChoice(t, "first of two alike, the other way round", 50, []api.Offer{twin, worst}, choice{of(5, 30, 50, 0), 2, 7})
}

// E2: what is best is asked of those alone that may be taken.
func TestChoosePassesOver(t *testing.T) {
	good := plain()
	want := choice{of(5, 203, 6, 0), 8, 4}
	for what, change := range map[string]func(*api.Offer){
		"too old":      func(o *api.Offer) { o.Age = 20 },
		"too young":    func(o *api.Offer) { o.Age = -1 },
		"no port":      func(o *api.Offer) { o.Port = -1 },
		"too dear":     func(o *api.Offer) { o.Cost = api.MaxCost + 1 },
		"less than 0":  func(o *api.Offer) { o.Cost = -1 },
		"wraps round":  func(o *api.Offer) { o.Cost, o.Vec.Cost = math.MaxInt, math.MaxInt },
		"vector below": func(o *api.Offer) { o.Vec.Cost = -1 },
	} {
		bad := with(api.Offer{Vec: of(0, 1, 0, 0)}, change)
		wantChoice(t, what+", first", 6, []api.Offer{bad, good}, want)
		wantChoice(t, what+", last", 6, []api.Offer{good, bad}, want)
		wantRoot(t, what+", twice", 6, []api.Offer{bad, bad})
	}
}

// E2 against a reckoning of its own.
func TestChooseOfMany(t *testing.T) {
	next := pick(3)
	for range 5000 {
		l := someOffers(next, next(12))
		id := uint64(next(5))
		wantChoice(t, "many", id, l, chosen(id, l))
	}
}

// E3: the root port, whatever is offered there, below 0 too.
func TestRoleRoot(t *testing.T) {
	for _, port := range ends() {
		better := []api.Offer{{Port: port}}
		wantRole(t, "root", of(5, 5, 5, 5), port, port, better, api.RoleRoot)
		wantRole(t, "root, nothing offered", of(5, 5, 5, 5), port, port, nil, api.RoleRoot)
		other := port ^ 1
		wantRole(t, "not root", of(5, 5, 5, 5), other, port, better, api.RoleBlocked)
		wantRole(t, "not root, nothing offered", of(5, 5, 5, 5), other, port, nil, api.RoleDesignated)
	}
}

// E3: each field that makes an offer better than what is said, and that it must be better, not as good.
func TestRoleBlocked(t *testing.T) {
	says := of(50, 50, 50, 77) // its port does not count
	for _, c := range []struct {
		what string
		vec  api.Vec
		want int
	}{
		{"root less", of(49, 99, 99, 99), api.RoleBlocked},
		{"root more", of(51, 0, 0, 0), api.RoleDesignated},
		{"cost less", of(50, 49, 99, 99), api.RoleBlocked},
		{"cost below 0", of(50, -1, 99, 99), api.RoleBlocked},
		{"cost more", of(50, 51, 0, 0), api.RoleDesignated},
		{"bridge less", of(50, 50, 49, 99), api.RoleBlocked},
		{"bridge more", of(50, 50, 51, 0), api.RoleDesignated},
		{"port less", of(50, 50, 50, 3), api.RoleBlocked},
		{"port the same", of(50, 50, 50, 4), api.RoleDesignated},
		{"port more", of(50, 50, 50, 5), api.RoleDesignated},
		{"port less than the one said", of(50, 50, 50, 76), api.RoleDesignated},
	} {
		for _, cost := range ends() {
			o := api.Offer{Port: 4, Cost: cost, Vec: c.vec} // the offer's cost does not count
			wantRole(t, c.what, says, 1, 4, []api.Offer{o}, c.want)
			wantRole(t, c.what+", at the root", with(says, func(v *api.Vec) { v.Port = 0 }), -1, 4, []api.Offer{o}, c.want)
		}
	}
}

// E3: an offer blocks its own port alone, while it is at most MaxHops old (one more than may be taken).
func TestRoleOfPortsAndAges(t *testing.T) {
	says := of(5, 5, 5, 0)
	for age := -3; age < 30; age++ {
		want := api.RoleDesignated
		if age >= 0 && age <= 20 {
			want = api.RoleBlocked
		}
		wantRole(t, "age", says, 1, 4, []api.Offer{{Port: 4, Age: age}}, want)
	}
	for _, age := range []int{math.MinInt, math.MaxInt} {
		wantRole(t, "age at an end", says, 1, 4, []api.Offer{{Port: 4, Age: age}}, api.RoleDesignated)
	}
	for _, port := range ends() {
		for _, asked := range ends() {
			want := api.RoleDesignated
			if port == asked {
				want = api.RoleBlocked
			}
			wantRole(t, "port", says, 77, asked, []api.Offer{{Port: port}}, want)
		}
	}
}

// E3: one offer that blocks is enough, wherever it stands.
func TestRoleOfSeveralOffers(t *testing.T) {
	says := of(5, 5, 5, 0)
	l := []api.Offer{{Port: 3}, {Port: 4, Vec: of(6, 0, 0, 0)}, {Port: 4, Age: 21}, {Port: 4, Age: -1}, {Port: 5}}
	wantRole(t, "none blocks", says, 1, 4, l, api.RoleDesignated)
	for i := range len(l) + 1 {
		wantRole(t, "one blocks", says, 1, 4, slices.Insert(slices.Clone(l), i, api.Offer{Port: 4, Age: 20}), api.RoleBlocked)
	}
}

// E3 against a reckoning of its own.
func TestRoleOfMany(t *testing.T) {
	next := pick(4)
	for range 5000 {
		l := someOffers(next, next(6))
		says, root, port := someVec(next), next(5)-1, next(5)-1
		wantRole(t, "many", says, root, port, l, role(says, root, port, l))
	}
}

// Z3: nil and a list without entries are the same.
func TestNilIsEmpty(t *testing.T) {
	for _, none := range [][]api.Vec{nil, {}, make([]api.Vec, 4)[2:2]} {
		if Best(none) != -1 || len(Sorted(none)) != 0 {
			t.Errorf("%d and %+v come of nothing", Best(none), Sorted(none))
		}
	}
	for _, none := range [][]api.Offer{nil, {}, make([]api.Offer, 4)[2:2]} {
		wantRoot(t, "nothing", 9, none)
		wantRole(t, "nothing", of(5, 5, 5, 5), 1, 1, none, api.RoleRoot)
		wantRole(t, "nothing", of(5, 5, 5, 5), -1, 0, none, api.RoleDesignated)
	}
}

// spaced is l, with room that is full of x ahead of it and behind it.
func spaced[T any](l []T, x T) (whole, part []T) {
	whole = make([]T, len(l)+20)
	fill(whole, x)
	copy(whole[10:], l)
	return whole, whole[10 : 10+len(l)]
}

// fill takes the spare room too.
func fill[T any](l []T, x T) {
	l = l[:cap(l)]
	for i := range l {
		l[i] = x
	}
}

// Z2: neither a list nor the spare room behind it is changed, or looked at (what stands there is better than all).
func TestArgumentsAreOnlyRead(t *testing.T) {
	next := pick(5)
	for n := range 60 {
		vecs, offers := someVecs(next, n), someOffers(next, n)
		wholeVecs, partVecs := spaced(vecs, of(0, -9, 0, -9))
		wholeOffers, partOffers := spaced(offers, api.Offer{Vec: of(0, 0, 0, -9)})
		keptVecs, keptOffers := slices.Clone(wholeVecs), slices.Clone(wholeOffers)
		if Best(partVecs) != Best(vecs) || !slices.Equal(Sorted(partVecs), Sorted(vecs)) {
			t.Errorf("%d vectors: the spare room counts", n)
		}
		wantChoice(t, "with spare room", 9, partOffers, chosen(9, offers))
		wantRole(t, "with spare room", of(1, 1, 1, 1), 1, 0, partOffers, role(of(1, 1, 1, 1), 1, 0, offers))
		if !slices.Equal(wholeVecs, keptVecs) || !slices.Equal(wholeOffers, keptOffers) {
			t.Errorf("%d entries: a list changed, or the room beside it", n)
		}
	}
}

// Z2: what Sorted answers shares nothing with its list, nor with another answer, spare room and all.
func TestAnswersAreNewMemory(t *testing.T) {
	next := pick(6)
	for n := range 60 {
		whole, l := spaced(someVecs(next, n), of(8, 8, 8, 8))
		got, again := Sorted(l), Sorted(l)
		want := slices.Clone(got)
		fill(whole, of(9, 9, 9, 9))
		if !slices.Equal(got, want) {
			t.Errorf("%d vectors: the answer changed with the list", n)
		}
		fill(got, of(7, 7, 7, 7))
		if !slices.Equal(again, want) {
			t.Errorf("%d vectors: an answer changed with another one", n)
		}
		for _, v := range whole {
			if v != of(9, 9, 9, 9) {
				t.Errorf("%d vectors: the list changed with the answer", n)
			}
		}
	}
	one := []api.Vec{of(1, 2, 3, 4)}
	if got := Sorted(one); &got[0] == &one[0] {
		t.Errorf("one vector: the list itself comes back")
	}
}

// Z1: what is answered hangs on nothing but the arguments, whoever else asks at the same time.
func TestManyAskAtOnce(t *testing.T) {
	next := pick(7)
	vecs, offers := someVecs(next, 50), someOffers(next, 50)
	sorted, best := Sorted(vecs), Best(vecs)
	var all sync.WaitGroup
	for id := range uint64(8) {
		all.Go(func() {
			for range 100 {
				if Best(vecs) != best || !slices.Equal(Sorted(vecs), sorted) {
					t.Errorf("%d and %+v come, not %d and %+v", Best(vecs), Sorted(vecs), best, sorted)
				}
				wantChoice(t, "at once", id, offers, chosen(id, offers))
				wantRole(t, "at once", of(id, 0, id, 0), -1, 2, offers, role(of(id, 0, id, 0), -1, 2, offers))
			}
		})
	}
	all.Wait()
}

// Z1: nothing panics, and all is as it is reckoned, of any numbers.
func FuzzOffers(f *testing.F) {
	f.Add(uint64(9), uint64(5), 2, uint64(7), 1, 3, 0, 4, uint64(5), 2, uint64(7), 1, 3, 0, 4)
	f.Add(uint64(9), uint64(9), math.MaxInt, uint64(0), -1, math.MaxInt, 20, 0, uint64(8), api.MaxCost, uint64(7), 1, 0, 19, 0)
	f.Fuzz(func(t *testing.T, id uint64, rootA uint64, costA int, bridgeA uint64, portA, stepA, ageA, atA int, rootB uint64, costB int, bridgeB uint64, portB, stepB, ageB, atB int) {
		a, b := of(rootA, costA, bridgeA, portA), of(rootB, costB, bridgeB, portB)
		if got, want := Compare(a, b), bytes.Compare(key(a), key(b)); got != want {
			t.Errorf("%+v and %+v: %d comes, not %d", a, b, got, want)
		}
		got, ok := Over(a, stepA)
		if want, wantOK := sum(a, stepA); got != want || ok != wantOK {
			t.Errorf("%+v over %d: %+v and %v come, not %+v and %v", a, stepA, got, ok, want, wantOK)
		}
		l := []api.Offer{{Port: atA, Cost: stepA, Age: ageA, Vec: a}, {Port: atB, Cost: stepB, Age: ageB, Vec: b}}
		wantChoice(t, "any", id, l, chosen(id, l))
		wantRole(t, "any", a, atA, atB, l, role(a, atA, atB, l))
		wantRole(t, "any", b, portA, atA, l, role(b, portA, atA, l))
	})
}
