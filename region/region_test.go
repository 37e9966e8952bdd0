package region

import (
	"bytes"
	"crypto/hmac"
	"crypto/md5"
	"encoding/binary"
	"encoding/hex"
	"math"
	"slices"
	"strings"
	"sync"
	"testing"

	"hedgerow/api"
)

func way(vid, tree int) api.Way { return api.Way{VID: vid, Tree: tree} }

// ordinary has its ways at both ends, side by side, and apart.
func ordinary() api.Region {
	return api.Region{Name: "hedge", Revision: 0x0102, Ways: []api.Way{way(1, 3), way(2, 1), way(5, 2), way(77, 15), way(2048, 2), way(4094, 7)}}
}

// full names every way that may be named.
func full() api.Region {
	r := api.Region{Name: "full"}
	for vid := 1; vid <= api.MaxVID; vid++ {
		r.Ways = append(r.Ways, way(vid, vid*7%15+1))
	}
	return r
}

// with is r, changed.
func with(r api.Region, change func(*api.Region)) api.Region {
	r.Ways = slices.Clone(r.Ways)
	change(&r)
	return r
}

// goodRegions are within each range, its ends too.
func goodRegions() map[string]api.Region {
	return map[string]api.Region{
		"ordinary":          ordinary(),
		"full":              full(),
		"least":             {Name: "r"},
		"longest name":      {Name: strings.Repeat("n", api.MaxName)},
		"blank name":        {Name: " "},
		"least byte":        {Name: " a "},
		"greatest byte":     {Name: "~a~"},
		"greatest revision": {Name: "r", Revision: api.MaxRevision},
		"least way":         {Name: "r", Ways: []api.Way{way(1, 1)}},
		"greatest way":      {Name: "r", Ways: []api.Way{way(api.MaxVID, api.MaxTree)}},
		"side by side":      {Name: "r", Ways: []api.Way{way(4093, 2), way(4094, 1)}},
		"one tree":          {Name: "r", Ways: []api.Way{way(8, 4), way(9, 4), way(11, 4)}},
	}
}

// knownTrees lays the trees out by hand, way by way, with no search.
func knownTrees(r api.Region) [4096]uint16 {
	var trees [4096]uint16
	for _, w := range r.Ways {
		trees[w.VID] = uint16(w.Tree)
	}
	return trees
}

func knownDigest(r api.Region) []byte {
	key, _ := hex.DecodeString("13ac06a62e47fd51f95d2ba243cd0346")
	m := hmac.New(md5.New, key)
	for _, tree := range knownTrees(r) {
		m.Write(binary.BigEndian.AppendUint16(nil, tree))
	}
	return m.Sum(nil)
}

func knownIdent(r api.Region) []byte {
	id := []byte(r.Name + strings.Repeat("\x00", 32-len(r.Name)))
	id = binary.BigEndian.AppendUint16(id, uint16(r.Revision))
	return append(id, knownDigest(r)...)
}

func wantWrong(t *testing.T, what string, r api.Region, want api.Errno) {
	t.Helper()
	if got := Wrong(r); got != want {
		t.Errorf("%s: Wrong says %d, not %d", what, got, want)
	}
}

func wantBytes(t *testing.T, what string, got, want []byte) {
	t.Helper()
	if !bytes.Equal(got, want) {
		t.Errorf("%s: %x comes, not %x", what, got, want)
	}
}

func wantTree(t *testing.T, what string, r api.Region, vid, want int) {
	t.Helper()
	if got := Tree(r, vid); got != want {
		t.Errorf("%s: way %d goes over tree %d, not %d", what, vid, got, want)
	}
}

// wantSame: asked both ways round.
func wantSame(t *testing.T, what string, a, b api.Region, want bool) {
	t.Helper()
	if Same(a, b) != want || Same(b, a) != want {
		t.Errorf("%s: Same says %t and %t, not %t", what, Same(a, b), Same(b, a), want)
	}
}

// C1: what is within each range, its ends too.
func TestWrongOfGoodRegions(t *testing.T) {
	for what, r := range goodRegions() {
		wantWrong(t, what, r, api.OK)
	}
}

// C1: how many bytes a name has; they are counted as bytes, whatever they spell.
func TestWrongNameLengths(t *testing.T) {
	for n := range 3 * api.MaxName {
		want := api.OK
		if n < 1 || n > api.MaxName {
			want = api.ErrName
		}
		wantWrong(t, "length", with(ordinary(), func(r *api.Region) { r.Name = strings.Repeat("x", n) }), want)
	}
	wantWrong(t, "long", with(ordinary(), func(r *api.Region) { r.Name = strings.Repeat("x", 1<<16+1) }), api.ErrName)
	wantWrong(t, "letters of two bytes", with(ordinary(), func(r *api.Region) { r.Name = "h\u00e4g" }), api.ErrName)
}

// C1: each byte, alone, first, between others, and at the end of the longest name.
func TestWrongNameBytes(t *testing.T) {
	for c := range 256 {
		want := api.ErrName
		if c >= ' ' && c <= '~' {
			want = api.OK
		}
		x := string([]byte{byte(c)})
		for _, name := range []string{x, x + "bc", "a" + x + "c", strings.Repeat("n", api.MaxName-1) + x} {
			wantWrong(t, name, with(ordinary(), func(r *api.Region) { r.Name = name }), want)
		}
	}
}

// C1: revisions.
func TestWrongRevisions(t *testing.T) {
	for _, n := range []int{-1, api.MaxRevision + 1, 1<<16 | 5, 1 << 32, math.MinInt, math.MaxInt} {
		wantWrong(t, "revision", with(ordinary(), func(r *api.Region) { r.Revision = n }), api.ErrRange)
	}
	for _, n := range []int{0, 1, 255, 256, api.MaxRevision} {
		wantWrong(t, "revision", with(ordinary(), func(r *api.Region) { r.Revision = n }), api.OK)
	}
}

// C1: VIDs and trees, whichever way they stand in.
func TestWrongWays(t *testing.T) {
	for at := range ordinary().Ways {
		for _, vid := range []int{0, -1, api.MaxVID + 1, 4096, 1<<16 | 5, math.MinInt, math.MaxInt} {
			wantWrong(t, "VID", with(ordinary(), func(r *api.Region) { r.Ways[at].VID = vid }), api.ErrRange)
		}
		for _, tree := range []int{0, -1, api.MaxTree + 1, 256, 1<<16 | 1, math.MinInt, math.MaxInt} {
			wantWrong(t, "tree", with(ordinary(), func(r *api.Region) { r.Ways[at].Tree = tree }), api.ErrRange)
		}
		for tree := 1; tree <= api.MaxTree; tree++ {
			wantWrong(t, "tree", with(ordinary(), func(r *api.Region) { r.Ways[at].Tree = tree }), api.OK)
		}
	}
}

// C1: VIDs rise; it is the one just ahead that counts, and the trees need not rise.
func TestWrongOrderOfWays(t *testing.T) {
	for at := 1; at < len(ordinary().Ways); at++ {
		wantWrong(t, "same VID", with(ordinary(), func(r *api.Region) { r.Ways[at].VID = r.Ways[at-1].VID }), api.ErrForm)
		wantWrong(t, "same way", with(ordinary(), func(r *api.Region) { r.Ways[at] = r.Ways[at-1] }), api.ErrForm)
		wantWrong(t, "less VID", with(ordinary(), func(r *api.Region) {
			r.Ways[at-1], r.Ways[at] = r.Ways[at], r.Ways[at-1]
		}), api.ErrForm)
	}
	for _, ways := range [][]api.Way{
		{way(2, 1), way(1, 1)},
		{way(5, 1), way(9, 1), way(7, 1)},
		{way(api.MaxVID, 1), way(1, 1)},
		{way(api.MaxVID, 1), way(api.MaxVID, 1)},
	} {
		wantWrong(t, "order", api.Region{Name: "r", Ways: ways}, api.ErrForm)
	}
	wantWrong(t, "more ways than there are VIDs", with(full(), func(r *api.Region) { r.Ways = append(r.Ways, way(1, 1)) }), api.ErrForm)
}

// C1: where several errors fit, the first one that the chapter names is told (Z4).
func TestWrongInOrder(t *testing.T) {
	form := []api.Way{way(5, 1), way(5, 2)}
	wantWrong(t, "name, revision, way", api.Region{Revision: -1, Ways: []api.Way{way(0, 0)}}, api.ErrName)
	wantWrong(t, "name, revision", api.Region{Name: "\x1f", Revision: api.MaxRevision + 1}, api.ErrName)
	wantWrong(t, "name, order", api.Region{Name: strings.Repeat("n", api.MaxName+1), Ways: form}, api.ErrName)
	wantWrong(t, "revision, order", api.Region{Name: "r", Revision: -1, Ways: form}, api.ErrRange)
}

// C1: way by way: what is wrong with one is told ahead of what is wrong with those behind it.
func TestWrongWayByWay(t *testing.T) {
	for what, c := range map[string]struct {
		ways []api.Way
		want api.Errno
	}{
		"order, then VID":         {[]api.Way{way(5, 1), way(5, 2), way(0, 1)}, api.ErrForm},
		"order, then tree":        {[]api.Way{way(5, 1), way(4, 2), way(6, 16)}, api.ErrForm},
		"VID, then order":         {[]api.Way{way(4095, 1), way(5, 2), way(5, 2)}, api.ErrRange},
		"tree, then order":        {[]api.Way{way(5, 0), way(5, 2)}, api.ErrRange},
		"order and VID of one":    {[]api.Way{way(5, 1), way(0, 1)}, api.ErrRange},
		"order and tree of one":   {[]api.Way{way(5, 1), way(5, 16)}, api.ErrRange},
		"order and tree, the 3rd": {[]api.Way{way(5, 1), way(6, 1), way(6, 0)}, api.ErrRange},
	} {
		wantWrong(t, what, api.Region{Name: "r", Ways: c.ways}, c.want)
	}
}

// C2: the tree of each way, and of what lies beyond.
func TestTreeOfEachWay(t *testing.T) {
	for what, r := range goodRegions() {
		for vid, tree := range knownTrees(r) {
			wantTree(t, what, r, vid, int(tree))
		}
		for _, vid := range []int{-1, -5, 4096, 4097, 1<<12 | 5, 1<<16 | 5, 1<<32 | 5, math.MinInt, math.MaxInt} {
			wantTree(t, what, r, vid, 0)
		}
	}
}

// C2: what is named goes over its tree, what is beside it over tree 0.
func TestTreeBesideWays(t *testing.T) {
	r := ordinary()
	for vid, tree := range map[int]int{0: 0, 1: 3, 2: 1, 3: 0, 4: 0, 5: 2, 6: 0, 76: 0, 77: 15, 78: 0, 2048: 2, 4093: 0, 4094: 7, 4095: 0} {
		wantTree(t, "ordinary", r, vid, tree)
	}
}

// C2: a digest that is known: that of no way that is named (as IEEE 802.1Q lists it).
func TestDigestThatIsKnown(t *testing.T) {
	want, _ := hex.DecodeString("ac36177f50283cd4b83821d8ab26de62")
	wantBytes(t, "no ways", Digest(api.Region{Name: "r"}), want)
}

// C2: digests, and identities.
func TestDigestAndIdent(t *testing.T) {
	for what, r := range goodRegions() {
		wantBytes(t, what+": Digest", Digest(r), knownDigest(r))
		wantBytes(t, what+": Ident", Ident(r), knownIdent(r))
	}
}

// C2: each place of an identity: the name, bytes 0 behind it, the revision, the digest.
func TestIdentOneByOne(t *testing.T) {
	for n := 1; n <= api.MaxName; n++ {
		r := with(ordinary(), func(r *api.Region) { r.Name = strings.Repeat("q", n) })
		id := Ident(r)
		if len(id) != 50 {
			t.Fatalf("%d bytes come, not 50", len(id))
		}
		wantBytes(t, "name", id[:n], []byte(r.Name))
		wantBytes(t, "behind the name", id[n:32], make([]byte, 32-n))
		wantBytes(t, "revision", id[32:34], []byte{1, 2})
		wantBytes(t, "digest", id[34:], Digest(r))
	}
	for _, n := range []int{0, 1, 255, 256, 0x1234, api.MaxRevision} {
		id := Ident(with(ordinary(), func(r *api.Region) { r.Revision = n }))
		wantBytes(t, "revision", id[32:34], []byte{byte(n / 256), byte(n % 256)})
	}
}

// C2: a digest hangs on neither name nor revision.
func TestDigestIsOfWaysAlone(t *testing.T) {
	other := with(ordinary(), func(r *api.Region) { r.Name, r.Revision = "other", 9 })
	wantBytes(t, "digest", Digest(other), Digest(ordinary()))
}

// C2: regions that are alike, each in memory of its own, and those that differ in one thing.
func TestSame(t *testing.T) {
	for what, r := range goodRegions() {
		wantSame(t, what, r, with(r, func(r *api.Region) { r.Name = strings.Clone(r.Name) }), true)
	}
	for what, other := range map[string]api.Region{
		"name":           with(ordinary(), func(r *api.Region) { r.Name = "hedgf" }),
		"longer name":    with(ordinary(), func(r *api.Region) { r.Name = "hedge " }),
		"shorter name":   with(ordinary(), func(r *api.Region) { r.Name = "hedg" }),
		"case":           with(ordinary(), func(r *api.Region) { r.Name = "Hedge" }),
		"low revision":   with(ordinary(), func(r *api.Region) { r.Revision = 0x0103 }),
		"high revision":  with(ordinary(), func(r *api.Region) { r.Revision = 0x0202 }),
		"revision round": with(ordinary(), func(r *api.Region) { r.Revision = 0x0201 }),
		"no ways":        with(ordinary(), func(r *api.Region) { r.Ways = nil }),
	} {
		wantSame(t, what, ordinary(), other, false)
	}
	for at := range ordinary().Ways {
		wantSame(t, "tree", ordinary(), with(ordinary(), func(r *api.Region) { r.Ways[at].Tree ^= 8 }), false)
		wantSame(t, "way less", ordinary(), with(ordinary(), func(r *api.Region) { r.Ways = slices.Delete(r.Ways, at, at+1) }), false)
	}
}

// Z3: nil and a list without entries are the same.
func TestNilIsEmpty(t *testing.T) {
	none := api.Region{Name: "r", Revision: 7}
	for _, ways := range [][]api.Way{nil, {}, ordinary().Ways[3:3]} {
		r := none
		r.Ways = ways
		wantWrong(t, "no ways", r, api.OK)
		for _, vid := range []int{-1, 0, 1, 5, 77, 4094, 4095} {
			wantTree(t, "no ways", r, vid, 0)
		}
		wantBytes(t, "Digest", Digest(r), knownDigest(none))
		wantBytes(t, "Ident", Ident(r), knownIdent(none))
		wantSame(t, "no ways", r, none, true)
		wantSame(t, "no ways", r, with(ordinary(), func(r *api.Region) { r.Name, r.Revision = "r", 7 }), false)
		wantWrong(t, "no name", api.Region{Ways: ways}, api.ErrName)
	}
}

// spaced is ways, with other ones ahead of it and behind it that would fit there.
func spaced(ways []api.Way) (whole, part []api.Way) {
	whole = append([]api.Way{way(4, 9)}, ways...)
	whole = append(whole, way(78, 9), way(4090, 9), way(4094, 9))
	return whole, whole[1 : 1+len(ways)]
}

// Z2: neither a list nor the spare room behind it is changed, or looked at.
func TestArgumentsAreOnlyRead(t *testing.T) {
	for n := range len(ordinary().Ways) + 1 {
		exact := with(ordinary(), func(r *api.Region) { r.Ways = r.Ways[:n:n] })
		whole, part := spaced(exact.Ways)
		kept := slices.Clone(whole)
		r := exact
		r.Ways = part
		wantWrong(t, "spare room", r, api.OK)
		for vid, tree := range knownTrees(exact) {
			wantTree(t, "spare room", r, vid, int(tree))
		}
		wantBytes(t, "Digest", Digest(r), knownDigest(exact))
		wantBytes(t, "Ident", Ident(r), knownIdent(exact))
		wantSame(t, "spare room", r, exact, true)
		if !slices.Equal(whole, kept) {
			t.Errorf("%v are changed to %v", kept, whole)
		}
	}
}

// Z2: wrong regions are only read, too.
func TestWrongArgumentsAreOnlyRead(t *testing.T) {
	ways := []api.Way{way(9, 1), way(3, 99), way(-4, 1), way(9, 2)}
	kept := slices.Clone(ways)
	askAll(api.Region{Name: "r", Ways: ways})
	if !slices.Equal(ways, kept) {
		t.Errorf("%v are changed to %v", kept, ways)
	}
}

// Z2: nothing of what was handed in is kept: the ways may change behind a call.
func TestNothingIsKept(t *testing.T) {
	r := ordinary()
	digest, id := Digest(r), Ident(r)
	askAll(r)
	for i := range r.Ways {
		r.Ways[i] = way(100+i, 11)
	}
	wantBytes(t, "Digest", digest, knownDigest(ordinary()))
	wantBytes(t, "Ident", id, knownIdent(ordinary()))
	wantBytes(t, "Digest, changed", Digest(r), knownDigest(r))
	wantBytes(t, "Ident, changed", Ident(r), knownIdent(r))
	wantTree(t, "changed", r, 5, 0)
	wantTree(t, "changed", r, 102, 11)
	wantSame(t, "changed", r, ordinary(), false)
}

// fill takes the spare room too.
func fill(b []byte) {
	b = b[:cap(b)]
	for i := range b {
		b[i] = 0xEE
	}
}

// Z2: what is answered is the caller's, its spare room too: no other answer changes with it.
func TestAnswersAreNewMemory(t *testing.T) {
	for what, r := range goodRegions() {
		digest, id := Digest(r), Ident(r)
		otherDigest, otherID := Digest(r), Ident(r)
		fill(digest)
		wantBytes(t, what+": Ident", id, knownIdent(r))
		fill(id)
		wantBytes(t, what+": Digest", otherDigest, knownDigest(r))
		wantBytes(t, what+": Ident", otherID, knownIdent(r))
		wantBytes(t, what+": Digest again", Digest(r), knownDigest(r))
		wantBytes(t, what+": Ident again", Ident(r), knownIdent(r))
	}
}

// Z1: what is answered hangs on nothing but the arguments, whoever else asks at the same time.
func TestManyAskAtOnce(t *testing.T) {
	var all sync.WaitGroup
	for i := range 8 {
		all.Go(func() {
			r := with(ordinary(), func(r *api.Region) { r.Revision, r.Ways[3].Tree = i, i+1 })
			want := knownIdent(r)
			for range 20 {
				wantBytes(t, "Ident", Ident(r), want)
				wantTree(t, "at once", r, 77, i+1)
			}
		})
	}
	all.Wait()
}

func askAll(r api.Region) {
	Wrong(r)
	Digest(r)
	Ident(r)
	Same(r, ordinary())
	Same(ordinary(), r)
	for _, vid := range []int{math.MinInt, -1, 0, 1, 5, 4094, 4095, 4096, math.MaxInt} {
		Tree(r, vid)
	}
}

// C1 and Z1: of what Wrong says something of, nothing panics.
func TestNothingPanics(t *testing.T) {
	for _, n := range []int{math.MinInt, -1 << 32, -4096, -1, 0, 1, 4095, 4096, 1 << 16, 1 << 32, math.MaxInt} {
		for _, name := range []string{"", "r", "\x00", "\xff\xfe", strings.Repeat("\x80", 33), strings.Repeat("n", 5000)} {
			askAll(api.Region{Name: name, Revision: n, Ways: []api.Way{way(n, n), way(5, n), way(n, 1), way(3, 1)}})
		}
	}
}

// C1 and C2: whatever two ways and a name there are.
func FuzzRegion(f *testing.F) {
	f.Add("r", 7, 5, 2, 4094, 15, 5)
	f.Add("", -1, 0, 0, 0, 0, 0)
	f.Fuzz(func(t *testing.T, name string, revision, vidA, treeA, vidB, treeB, vid int) {
		r := api.Region{Name: name, Revision: revision, Ways: []api.Way{way(vidA, treeA), way(vidB, treeB)}}
		askAll(r)
		got := Tree(r, vid)
		if Wrong(r) != api.OK {
			return
		}
		want := map[int]int{vidA: treeA, vidB: treeB}[vid]
		if got != want {
			t.Errorf("%+v: way %d goes over tree %d, not %d", r, vid, got, want)
		}
		wantBytes(t, "Ident", Ident(r), knownIdent(r))
	})
}
