package hello

import (
	"bytes"
	"encoding/binary"
	"encoding/hex"
	"math"
	"reflect"
	"slices"
	"sync"
	"testing"

	"hedgerow/api"
)

func digest() []byte {
	return []byte("0123456789abcdef")
}

// one, two and three are tales whose bytes are all unlike.
func one() api.Tale {
	return api.Tale{Tree: 1, Age: 2, Vec: api.Vec{Root: 0x1112131415161718, Cost: 0x21222324, Bridge: 0x3132333435363738, Port: 9}}
}

func two() api.Tale {
	return api.Tale{Tree: 5, Age: 0x41, Vec: api.Vec{Root: 0x5152535455565758, Cost: 0x11, Bridge: 0x6162636465666768, Port: 29}}
}

func three() api.Tale {
	return api.Tale{Tree: 15, Age: 255, Vec: api.Vec{Root: math.MaxUint64, Cost: api.MaxCost, Bridge: math.MaxUint64, Port: api.MaxPort}}
}

func of(tales ...api.Tale) api.Hello {
	return api.Hello{Digest: digest(), Tales: tales}
}

// full has a tale of each tree.
func full() api.Hello {
	h := of()
	for tree := range api.MaxTree + 1 {
		h.Tales = append(h.Tales, with(two(), func(t *api.Tale) { t.Tree = tree }))
	}
	return h
}

// with is a tale, changed.
func with(t api.Tale, change func(*api.Tale)) api.Tale {
	change(&t)
	return t
}

func goodHellos() map[string]api.Hello {
	return map[string]api.Hello{
		"none":         of(),
		"one":          of(one()),
		"noughts":      of(api.Tale{}),
		"greatest":     of(three()),
		"two":          of(one(), two()),
		"three":        of(one(), two(), three()),
		"side by side": of(with(one(), func(t *api.Tale) { t.Tree = 4 }), two()),
		"first, last":  of(with(one(), func(t *api.Tale) { t.Tree = 0 }), three()),
		"full":         full(),
	}
}

// wrongTale is a tale of tree 7 with a number out of its range.
type wrongTale struct {
	what string
	tale api.Tale
}

func outOfRange() []wrongTale {
	seven := with(two(), func(t *api.Tale) { t.Tree = 7 })
	var l []wrongTale
	add := func(what string, least, most int, put func(*api.Tale, int)) {
		for _, n := range []int{least - 1, most + 1, most + 256, most + 1<<32, math.MinInt, math.MaxInt} {
			l = append(l, wrongTale{what, with(seven, func(t *api.Tale) { put(t, n) })})
		}
	}
	add("tree", 0, 15, func(t *api.Tale, n int) { t.Tree = n })
	add("age", 0, 255, func(t *api.Tale, n int) { t.Age = n })
	add("cost", 0, 1000000000, func(t *api.Tale, n int) { t.Vec.Cost = n })
	add("port", 0, 30, func(t *api.Tale, n int) { t.Vec.Port = n })
	return l
}

func unhex(t *testing.T, s string) []byte {
	t.Helper()
	b, err := hex.DecodeString(s)
	if err != nil {
		t.Fatal(err)
	}
	return b
}

// written is what D2 says, put down by other means.
func written(h api.Hello) []byte {
	b := append(bytes.Clone(h.Digest), uint8(len(h.Tales)))
	for _, t := range h.Tales {
		b = append(b, uint8(t.Tree), uint8(t.Age))
		b = binary.BigEndian.AppendUint64(b, t.Vec.Root)
		b = binary.BigEndian.AppendUint32(b, uint32(t.Vec.Cost))
		b = binary.BigEndian.AppendUint64(b, t.Vec.Bridge)
		b = append(b, uint8(t.Vec.Port))
	}
	return b
}

// wantError: h is refused, by Wrong, and by Bytes with nothing beside (Z4).
func wantError(t *testing.T, what string, h api.Hello, want api.Errno) {
	t.Helper()
	if got := Wrong(h); got != want {
		t.Errorf("%s: Wrong says %d, not %d", what, got, want)
	}
	b, got := Bytes(h)
	if got != want || len(b) != 0 {
		t.Errorf("%s: Bytes says %d with %d bytes, not %d with none", what, got, len(b), want)
	}
}

// wantBytes: h is written as want, and read again from there.
func wantBytes(t *testing.T, what string, h api.Hello, want []byte) {
	t.Helper()
	if got := Wrong(h); got != api.OK {
		t.Errorf("%s: Wrong says %d", what, got)
	}
	b, err := Bytes(h)
	if err != api.OK || !bytes.Equal(b, want) {
		t.Errorf("%s: Bytes says %x and %d, not %x", what, b, err, want)
	}
	wantHello(t, what, want, h)
}

func wantHello(t *testing.T, what string, b []byte, want api.Hello) {
	t.Helper()
	got, err := Parse(b)
	if err != api.OK || !same(got, want) {
		t.Errorf("%s: Parse says %+v and %d, not %+v", what, got, err, want)
	}
}

// wantNoHello: b is refused, with an empty hello beside (Z4).
func wantNoHello(t *testing.T, what string, b []byte, want api.Errno) {
	t.Helper()
	got, err := Parse(b)
	if err != want || !same(got, api.Hello{}) {
		t.Errorf("%s: Parse says %+v and %d, not none and %d", what, got, err, want)
	}
}

// same takes nil for an empty list (Z3).
func same(g, h api.Hello) bool {
	return bytes.Equal(g.Digest, h.Digest) && slices.Equal(g.Tales, h.Tales)
}

// D1: what is within each range, its ends too.
func TestWrongOfGoodHellos(t *testing.T) {
	for what, h := range goodHellos() {
		wantBytes(t, what, h, written(h))
	}
	for _, n := range []int{0, 1, 255} {
		for what, change := range map[string]func(*api.Tale){
			"tree": func(t *api.Tale) { t.Tree = n % 16 },
			"age":  func(t *api.Tale) { t.Age = n },
			"cost": func(t *api.Tale) { t.Vec.Cost = n },
			"port": func(t *api.Tale) { t.Vec.Port = n % 31 },
		} {
			h := of(with(two(), change))
			wantBytes(t, what, h, written(h))
		}
	}
}

// D1: a digest has sixteen bytes, neither less nor more.
func TestWrongDigests(t *testing.T) {
	for n := range 70 {
		for _, h := range []api.Hello{of(), of(one(), two())} {
			h.Digest = make([]byte, n)
			if n == 16 {
				wantBytes(t, "sixteen", h, written(h))
			} else {
				wantError(t, "not sixteen", h, api.ErrForm)
			}
		}
	}
}

// D1: each number of a tale, wherever the tale stands.
func TestWrongNumbers(t *testing.T) {
	for _, c := range outOfRange() {
		wantError(t, c.what+" alone", of(c.tale), api.ErrRange)
		wantError(t, c.what+" first", of(c.tale, three()), api.ErrRange)
		wantError(t, c.what+" between", of(one(), c.tale, three()), api.ErrRange)
		wantError(t, c.what+" last", of(one(), two(), c.tale), api.ErrRange)
	}
}

// D1: trees rise, each two side by side.
func TestWrongOrder(t *testing.T) {
	for a := range 16 {
		for b := range 16 {
			h := of(with(one(), func(t *api.Tale) { t.Tree = a }), with(two(), func(t *api.Tale) { t.Tree = b }))
			if a < b {
				wantBytes(t, "rising", h, written(h))
			} else {
				wantError(t, "not rising", h, api.ErrForm)
			}
		}
	}
	wantError(t, "twice", of(one(), two(), two(), three()), api.ErrForm)
	wantError(t, "back", of(one(), three(), two()), api.ErrForm)
	wantError(t, "back, above the first", of(one(), three(), two(), three()), api.ErrForm)
	h := full()
	h.Tales = append(h.Tales, three())
	wantError(t, "more than there are trees", h, api.ErrForm)
	wantError(t, "as many as a byte goes round by", of(make([]api.Tale, 256)...), api.ErrForm)
}

// D1: roots and bridges may be any numbers.
func TestAnyRootsAndBridges(t *testing.T) {
	for _, n := range []uint64{0, 1, api.MaxAddr, api.MaxAddr + 1, 1 << 63, math.MaxUint64} {
		h := of(with(one(), func(t *api.Tale) { t.Vec.Root = n }), with(two(), func(t *api.Tale) { t.Vec.Bridge = n }))
		wantBytes(t, "any", h, written(h))
	}
}

// D1: where several errors fit, the first one is told, tale by tale (Z4).
func TestWrongInOrder(t *testing.T) {
	for _, c := range outOfRange() {
		short := of(c.tale)
		short.Digest = short.Digest[:15]
		wantError(t, "digest, "+c.what, short, api.ErrForm)
		wantError(t, "order, then "+c.what, of(two(), one(), c.tale), api.ErrForm)
		wantError(t, c.what+", then order", of(c.tale, two(), one()), api.ErrRange)
		wantError(t, c.what+" and order in one tale", of(three(), c.tale), api.ErrRange)
	}
}

// D2: the bytes, one by one.
func TestBytesOneByOne(t *testing.T) {
	head := "30313233343536373839616263646566"
	first := "01" + "02" + "1112131415161718" + "21222324" + "3132333435363738" + "09"
	second := "05" + "41" + "5152535455565758" + "00000011" + "6162636465666768" + "1d"
	third := "0f" + "ff" + "ffffffffffffffff" + "3b9aca00" + "ffffffffffffffff" + "1e"
	wantBytes(t, "none", of(), unhex(t, head+"00"))
	wantBytes(t, "one", of(one()), unhex(t, head+"01"+first))
	wantBytes(t, "three", of(one(), two(), three()), unhex(t, head+"03"+first+second+third))
}

// D2: seventeen bytes, and twenty-three a tale.
func TestHowManyBytes(t *testing.T) {
	for n := range 17 {
		h := full()
		h.Tales = h.Tales[:n]
		if b, err := Bytes(h); err != api.OK || len(b) != 17+23*n || int(b[16]) != n {
			t.Errorf("%d tales: %d bytes come, and %d", n, len(b), err)
		}
	}
}

// D2: less than seventeen bytes, whatever stands in them.
func TestParseTooShort(t *testing.T) {
	for n := range 17 {
		wantNoHello(t, "noughts", make([]byte, n), api.ErrForm)
		wantNoHello(t, "ones", bytes.Repeat([]byte{0xFF}, n), api.ErrForm)
	}
	wantHello(t, "seventeen", make([]byte, 17), api.Hello{Digest: make([]byte, 16)})
}

// D2: just as many bytes as the tales have.
func TestParseEachLength(t *testing.T) {
	whole := append(written(full()), make([]byte, 60)...)
	for count := range 17 {
		whole[16] = byte(count)
		for n := range whole {
			if n == 17+23*count {
				want := full()
				want.Tales = want.Tales[:count]
				wantHello(t, "just as many", whole[:n], want)
			} else {
				wantNoHello(t, "too few, or too many", whole[:n], api.ErrForm)
			}
		}
	}
}

// D2: each count, with as many bytes as it asks for: no more than sixteen tales can rise.
func TestParseEachCount(t *testing.T) {
	for count := range 256 {
		b := make([]byte, 17+23*count)
		b[16] = byte(count)
		for i := range count {
			b[17+23*i] = byte(i)
		}
		if count <= 16 {
			again, err := Parse(b)
			if err != api.OK || len(again.Tales) != count {
				t.Errorf("%d tales: %d come, and %d", count, len(again.Tales), err)
			}
			continue
		}
		wantNoHello(t, "tree 16", b, api.ErrRange)
		b[17+23*16] = 0
		wantNoHello(t, "a tree twice", b, api.ErrForm)
		wantNoHello(t, "a byte less", b[:len(b)-1], api.ErrForm)
		wantNoHello(t, "a byte more", append(b, 0), api.ErrForm)
	}
}

// D2: what Wrong says of the hello that is read.
func TestParseWrongHellos(t *testing.T) {
	good := written(of(one(), two(), three()))
	change := func(tale, at int, with ...byte) []byte {
		b := bytes.Clone(good)
		copy(b[17+23*tale+at:], with)
		return b
	}
	for tale := range 3 {
		wantNoHello(t, "tree 16", change(tale, 0, 16), api.ErrRange)
		wantNoHello(t, "tree 255", change(tale, 0, 255), api.ErrRange)
		wantNoHello(t, "cost above all", change(tale, 10, 0x3B, 0x9A, 0xCA, 0x01), api.ErrRange)
		wantNoHello(t, "greatest cost", change(tale, 10, 0xFF, 0xFF, 0xFF, 0xFF), api.ErrRange)
		wantNoHello(t, "port 31", change(tale, 22, 31), api.ErrRange)
		wantNoHello(t, "port 255", change(tale, 22, 255), api.ErrRange)
	}
	wantNoHello(t, "same tree", change(1, 0, 1), api.ErrForm)
	wantNoHello(t, "less tree", change(2, 0, 4), api.ErrForm)
	behind := change(1, 0, 1)
	behind[len(behind)-1] = 31
	wantNoHello(t, "same tree, then port", behind, api.ErrForm)
	ahead := change(2, 0, 1)
	ahead[17+22] = 31
	wantNoHello(t, "port, then same tree", ahead, api.ErrRange)
	wantNoHello(t, "length, then port", ahead[:len(ahead)-1], api.ErrForm)
}

// D2: what can be read is written as it was read: there is one way alone to write a hello.
func TestParseThenBytes(t *testing.T) {
	b := written(of(one(), two()))
	for i := range b {
		for x := range 256 {
			c := bytes.Clone(b)
			c[i] = byte(x)
			h, err := Parse(c)
			if err != api.OK {
				continue
			}
			again, err := Bytes(h)
			if err != api.OK || !bytes.Equal(again, c) {
				t.Errorf("%x is read, and written as %x (%d)", c, again, err)
			}
		}
	}
}

// Z3: nil and a list without entries are the same.
func TestNilIsEmpty(t *testing.T) {
	for _, none := range [][]byte{nil, {}, make([]byte, 40)[20:20]} {
		wantNoHello(t, "nothing", none, api.ErrForm)
		wantError(t, "no digest", api.Hello{Digest: none}, api.ErrForm)
		wantError(t, "no digest, a wrong tale", api.Hello{Digest: none, Tales: []api.Tale{{Tree: -1}}}, api.ErrForm)
	}
	for _, none := range [][]api.Tale{nil, {}, make([]api.Tale, 4)[2:2]} {
		wantBytes(t, "no tales", of(none...), append(digest(), 0))
		wantError(t, "neither", api.Hello{Tales: none}, api.ErrForm)
	}
}

// spaced is l, with room that is full of x ahead of it and behind it.
func spaced[T any](l []T, x T) (whole, part []T) {
	whole = make([]T, len(l)+80)
	fill(whole, x)
	copy(whole[40:], l)
	return whole, whole[40 : 40+len(l)]
}

// fill takes the spare room too.
func fill[T any](l []T, x T) {
	l = l[:cap(l)]
	for i := range l {
		l[i] = x
	}
}

// Z2: neither a list nor the spare room behind it is changed, or looked at.
func TestArgumentsAreOnlyRead(t *testing.T) {
	for what, h := range goodHellos() {
		want := written(h)
		digests, digest := spaced(h.Digest, 0xA5)
		tales, part := spaced(h.Tales, api.Tale{Tree: -1})
		keptDigests, keptTales := bytes.Clone(digests), slices.Clone(tales)
		wantBytes(t, what+" with spare room", api.Hello{Digest: digest, Tales: part}, want)
		wantError(t, what+" with a digest's end in spare room", api.Hello{Digest: digest[:15], Tales: part}, api.ErrForm)
		if !bytes.Equal(digests, keptDigests) || !slices.Equal(tales, keptTales) {
			t.Errorf("%s: Bytes changed a list, or the room beside it", what)
		}
		for n := range len(want) + 1 {
			whole, b := spaced(want[:n], 0xA5)
			kept := bytes.Clone(whole)
			got, err := Parse(b)
			again, errAgain := Parse(slices.Clip(bytes.Clone(b)))
			if err != errAgain || !same(got, again) {
				t.Errorf("%s, %d bytes: %+v and %d come with spare room, %+v and %d without", what, n, got, err, again, errAgain)
			}
			if !bytes.Equal(whole, kept) {
				t.Errorf("%s: Parse changed its bytes, or the room beside them", what)
			}
		}
	}
}

// Z2: nothing of what was handed in is kept, and what is answered is the caller's, its spare room too.
func TestAnswersAreNewMemory(t *testing.T) {
	for what, h := range goodHellos() {
		want := written(h)
		g := api.Hello{Digest: bytes.Clone(h.Digest), Tales: slices.Clone(h.Tales)}
		b, _ := Bytes(g)
		fill(g.Digest, 0xEE)
		fill(g.Tales, api.Tale{Tree: 3, Age: 9})
		if !bytes.Equal(b, want) {
			t.Errorf("%s: Bytes' answer changed with the hello", what)
		}
		fill(b, 0x22)
		if !bytes.Equal(g.Digest, bytes.Repeat([]byte{0xEE}, 16)) {
			t.Errorf("%s: the digest changed with Bytes' answer", what)
		}
		whole, part := spaced(want, 0xA5)
		read, _ := Parse(part)
		fill(whole, 0xEE)
		if !same(read, h) {
			t.Errorf("%s: Parse's answer changed with its bytes", what)
		}
		fill(read.Digest, 0x33)
		if !slices.Equal(read.Tales, h.Tales) || !bytes.Equal(whole, bytes.Repeat([]byte{0xEE}, len(whole))) {
			t.Errorf("%s: the tales or the bytes changed with the digest that Parse answered", what)
		}
	}
}

// Z2: two answers share nothing.
func TestAnswersShareNothing(t *testing.T) {
	for what, h := range goodHellos() {
		want := written(h)
		b, _ := Bytes(h)
		c, _ := Bytes(h)
		f, _ := Parse(want)
		g, _ := Parse(want)
		fill(b, 0x44)
		fill(f.Digest, 0x55)
		fill(f.Tales, api.Tale{Tree: 3, Age: 9})
		if !bytes.Equal(c, want) || !same(g, h) {
			t.Errorf("%s: an answer changed with another one", what)
		}
		wantBytes(t, what+" asked again", h, want)
	}
}

// Z1: what is answered hangs on nothing but the arguments, whoever else asks at the same time.
func TestManyAskAtOnce(t *testing.T) {
	var all sync.WaitGroup
	shared := full()
	for i := range 8 {
		all.Go(func() {
			own := of(with(one(), func(t *api.Tale) { t.Age, t.Vec.Port = i, i }), two())
			for range 200 {
				for _, h := range []api.Hello{own, shared} {
					b, _ := Bytes(h)
					if g, err := Parse(b); err != api.OK || !same(g, h) {
						t.Errorf("%+v and %d come, not %+v", g, err, h)
					}
				}
			}
		})
	}
	all.Wait()
}

// D1 against a reckoning of its own: each of a tale's numbers at and beside its ends.
func TestWrongOfEachEnd(t *testing.T) {
	ok := func(n, most int) bool { return n >= 0 && n <= most }
	for _, tree := range []int{-1, 0, 15, 16} {
		for _, age := range []int{-1, 0, 255, 256} {
			for _, cost := range []int{-1, 0, 1000000000, 1000000001} {
				for _, port := range []int{-1, 0, 30, 31} {
					want := api.ErrRange
					if ok(tree, 15) && ok(age, 255) && ok(cost, 1000000000) && ok(port, 30) {
						want = api.OK
					}
					h := of(api.Tale{Tree: tree, Age: age, Vec: api.Vec{Cost: cost, Port: port}})
					if got := Wrong(h); got != want {
						t.Errorf("%+v: Wrong says %d, not %d", h.Tales, got, want)
					}
				}
			}
		}
	}
}

// Z1: nothing panics, and what is read is written as it was read.
func FuzzParse(f *testing.F) {
	for _, h := range goodHellos() {
		f.Add(written(h))
	}
	f.Add([]byte{})
	f.Add(make([]byte, 17+23*2))
	f.Fuzz(func(t *testing.T, b []byte) {
		h, err := Parse(b)
		if err != api.OK {
			if !reflect.DeepEqual(h, api.Hello{}) {
				t.Errorf("%+v stands beside %d", h, err)
			}
			return
		}
		if again, err := Bytes(h); err != api.OK || !bytes.Equal(again, b) || !bytes.Equal(written(h), b) {
			t.Errorf("%x is read, and written as %x (%d)", b, again, err)
		}
	})
}
