package frame

import (
	"bytes"
	"encoding/binary"
	"encoding/hex"
	"math"
	"reflect"
	"sync"
	"testing"

	"hedgerow/api"
)

func plain() api.Frame {
	return api.Frame{Dst: 0x0A0B0C0D0E0F, Src: 0x020304050607, Type: 0x0800, Data: []byte("hedge")}
}

func tagged() api.Frame {
	f := plain()
	f.Tagged, f.Prio, f.Drop, f.VID = true, 5, true, 0xABC
	return f
}

// with is f, changed.
func with(f api.Frame, change func(*api.Frame)) api.Frame {
	change(&f)
	return f
}

func unhex(t *testing.T, s string) []byte {
	t.Helper()
	b, err := hex.DecodeString(s)
	if err != nil {
		t.Fatal(err)
	}
	return b
}

// wantError: f is refused, by Wrong, and by Bytes with nothing beside (Z4).
func wantError(t *testing.T, what string, f api.Frame, want api.Errno) {
	t.Helper()
	if got := Wrong(f); got != want {
		t.Errorf("%s: Wrong says %d, not %d", what, got, want)
	}
	b, got := Bytes(f)
	if got != want || len(b) != 0 {
		t.Errorf("%s: Bytes says %d with %d bytes, not %d with none", what, got, len(b), want)
	}
}

// wantBytes: f is written as want, and read again from there.
func wantBytes(t *testing.T, what string, f api.Frame, want []byte) {
	t.Helper()
	if got := Wrong(f); got != api.OK {
		t.Errorf("%s: Wrong says %d", what, got)
	}
	b, err := Bytes(f)
	if err != api.OK || !bytes.Equal(b, want) {
		t.Errorf("%s: Bytes says %x and %d, not %x", what, b, err, want)
	}
	wantFrame(t, what, want, f)
}

func wantFrame(t *testing.T, what string, b []byte, want api.Frame) {
	t.Helper()
	got, err := Parse(b)
	if err != api.OK || !same(got, want) {
		t.Errorf("%s: Parse says %+v and %d, not %+v", what, got, err, want)
	}
}

// wantNoFrame: b is refused, with an empty frame beside (Z4).
func wantNoFrame(t *testing.T, what string, b []byte, want api.Errno) {
	t.Helper()
	got, err := Parse(b)
	if err != want || !same(got, api.Frame{}) {
		t.Errorf("%s: Parse says %+v and %d, not none and %d", what, got, err, want)
	}
}

// same takes nil for an empty list (Z3).
func same(f, g api.Frame) bool {
	data := bytes.Equal(f.Data, g.Data)
	f.Data, g.Data = nil, nil
	return data && reflect.DeepEqual(f, g)
}

// B1: bit 40 alone makes an address one of many.
func TestOfMany(t *testing.T) {
	for bit := range 64 {
		if got := OfMany(1 << bit); got != (bit == 40) {
			t.Errorf("bit %d: %v comes", bit, got)
		}
	}
	for addr, want := range map[uint64]bool{0: false, api.MaxAddr: true, api.MaxAddr &^ (1 << 40): false, math.MaxUint64: true} {
		if OfMany(addr) != want {
			t.Errorf("%x: %v comes", addr, !want)
		}
	}
}

// B1: what is within each range, its ends too.
func TestWrongOfGoodFrames(t *testing.T) {
	for what, f := range map[string]api.Frame{
		"plain":                plain(),
		"tagged":               tagged(),
		"least addresses":      with(plain(), func(f *api.Frame) { f.Dst, f.Src = 0, 0 }),
		"greatest destination": with(plain(), func(f *api.Frame) { f.Dst = api.MaxAddr }),
		"greatest source":      with(plain(), func(f *api.Frame) { f.Src = api.MaxAddr &^ (1 << 40) }),
		"to many":              with(plain(), func(f *api.Frame) { f.Dst = 1 << 40 }),
		"to itself":            with(plain(), func(f *api.Frame) { f.Dst = f.Src }),
		"least tag":            with(tagged(), func(f *api.Frame) { f.Prio, f.Drop, f.VID = 0, false, 0 }),
		"greatest tag":         with(tagged(), func(f *api.Frame) { f.Prio, f.VID = api.MaxPrio, api.MaxVID }),
		"least type":           with(plain(), func(f *api.Frame) { f.Type = api.MinType }),
		"greatest type":        with(tagged(), func(f *api.Frame) { f.Type = api.MaxType }),
		"type below a tag's":   with(plain(), func(f *api.Frame) { f.Type = api.TagType - 1 }),
		"type above a tag's":   with(tagged(), func(f *api.Frame) { f.Type = api.TagType + 1 }),
		"no data":              with(plain(), func(f *api.Frame) { f.Data = nil }),
		"most data":            with(tagged(), func(f *api.Frame) { f.Data = make([]byte, api.MaxData) }),
	} {
		if got := Wrong(f); got != api.OK {
			t.Errorf("%s: Wrong says %d", what, got)
		}
		b, err := Bytes(f)
		if err != api.OK {
			t.Errorf("%s: Bytes says %d", what, err)
		}
		wantFrame(t, what, b, f)
	}
}

// B1: addresses.
func TestWrongAddresses(t *testing.T) {
	for _, base := range []api.Frame{plain(), tagged()} {
		for _, addr := range []uint64{api.MaxAddr + 1, 1<<48 | 5, 1<<48 | 1<<40, 1 << 63, math.MaxUint64} {
			wantError(t, "destination", with(base, func(f *api.Frame) { f.Dst = addr }), api.ErrRange)
			wantError(t, "source", with(base, func(f *api.Frame) { f.Src = addr }), api.ErrRange)
		}
		for _, addr := range []uint64{1 << 40, 1<<40 | 7, api.MaxAddr, 0x0180C2000000} {
			wantError(t, "source of many", with(base, func(f *api.Frame) { f.Src = addr }), api.ErrFit)
		}
	}
}

// B1: what a tag holds.
func TestWrongTags(t *testing.T) {
	for _, vid := range []int{-1, api.MaxVID + 1, 4096, 1 << 16, math.MinInt, math.MaxInt} {
		wantError(t, "VID", with(tagged(), func(f *api.Frame) { f.VID = vid }), api.ErrRange)
	}
	for _, prio := range []int{-1, api.MaxPrio + 1, 256, math.MinInt, math.MaxInt} {
		wantError(t, "Prio", with(tagged(), func(f *api.Frame) { f.Prio = prio }), api.ErrRange)
	}
}

// B1: types.
func TestWrongTypes(t *testing.T) {
	for _, base := range []api.Frame{plain(), tagged()} {
		for _, typ := range []int{api.MinType - 1, 0, -1, api.MaxType + 1, 1<<16 | 0x0800, api.TagType, math.MinInt, math.MaxInt} {
			wantError(t, "type", with(base, func(f *api.Frame) { f.Type = typ }), api.ErrKind)
		}
	}
}

// B1: too much data.
func TestWrongData(t *testing.T) {
	for _, base := range []api.Frame{plain(), tagged()} {
		for _, n := range []int{api.MaxData + 1, api.MaxData + 5, 70000} {
			wantError(t, "data", with(base, func(f *api.Frame) { f.Data = make([]byte, n) }), api.ErrMuch)
		}
	}
}

// B1: where several errors fit, the first one that the chapter names is told (Z4).
func TestWrongInOrder(t *testing.T) {
	f := tagged()
	f.Data = make([]byte, api.MaxData+1)
	wantError(t, "data", f, api.ErrMuch)
	f.Type = 0
	wantError(t, "type, data", f, api.ErrKind)
	f.VID = -1
	wantError(t, "VID, type, data", f, api.ErrRange)
	f.VID, f.Prio = 0, 8
	wantError(t, "Prio, type, data", f, api.ErrRange)
	f.Src = 1 << 40
	wantError(t, "source of many, Prio, type, data", f, api.ErrFit)
	f.Dst = 1 << 48
	wantError(t, "destination, source of many, Prio, type, data", f, api.ErrRange)
	f.Dst, f.Src = 0, 1<<48|1<<40
	wantError(t, "source above all and of many, Prio, type, data", f, api.ErrRange)
}

// B1 and B2: without a tag, what would stand in it means nothing.
func TestPlainHasNoTag(t *testing.T) {
	want, _ := Bytes(plain())
	for _, n := range []int{-1, 3, 8, 4095, math.MinInt, math.MaxInt} {
		f := with(plain(), func(f *api.Frame) { f.Prio, f.VID, f.Drop = n, n, true })
		if err := Wrong(f); err != api.OK {
			t.Errorf("%d: Wrong says %d", n, err)
		}
		b, err := Bytes(f)
		if err != api.OK || !bytes.Equal(b, want) {
			t.Errorf("%d: Bytes says %x and %d, not %x", n, b, err, want)
		}
		wantFrame(t, "written with a tag's fields", b, plain())
	}
}

// B2: the bytes, one by one.
func TestBytesOneByOne(t *testing.T) {
	wantBytes(t, "plain", plain(), unhex(t, "0a0b0c0d0e0f"+"020304050607"+"0800"+"6865646765"))
	wantBytes(t, "tagged", tagged(), unhex(t, "0a0b0c0d0e0f"+"020304050607"+"8100"+"babc"+"0800"+"6865646765"))
	wantBytes(t, "short numbers", api.Frame{Dst: 1, Src: 2, Type: 0x0601}, unhex(t, "000000000001"+"000000000002"+"0601"))
	wantBytes(t, "empty tag", api.Frame{Dst: api.MaxAddr, Tagged: true, Type: 0xFFFF, Data: []byte{0}}, unhex(t, "ffffffffffff"+"000000000000"+"8100"+"0000"+"ffff"+"00"))
	wantBytes(t, "data like a tag", api.Frame{Type: 0x86DD, Data: []byte{0x81, 0x00, 0x00, 0x05}}, unhex(t, "000000000000"+"000000000000"+"86dd"+"81000005"))
}

// B2: Prio, Drop and VID stand in bits of their own.
func TestBytesOfTags(t *testing.T) {
	for _, c := range []struct {
		prio int
		drop bool
		vid  int
		want uint16
	}{
		{1, false, 0, 0x2000}, {7, false, 0, 0xE000}, {0, true, 0, 0x1000}, {0, false, 1, 0x0001},
		{0, false, api.MaxVID, 0x0FFE}, {7, true, api.MaxVID, 0xFFFE}, {2, true, 0x801, 0x5801},
	} {
		f := api.Frame{Tagged: true, Prio: c.prio, Drop: c.drop, VID: c.vid, Type: 0x0800}
		want := binary.BigEndian.AppendUint16(append(make([]byte, 12), 0x81, 0x00), c.want)
		wantBytes(t, "tag", f, append(want, 0x08, 0x00))
	}
}

// B2: each tag is read as it is written; VID 4095 is none.
func TestParseEachTag(t *testing.T) {
	for tag := range 1 << 16 {
		b := append(make([]byte, 12), 0x81, 0x00, byte(tag>>8), byte(tag), 0x08, 0x00)
		if tag&0xFFF == 0xFFF {
			wantNoFrame(t, "VID 4095", b, api.ErrRange)
			continue
		}
		wantFrame(t, "tag", b, api.Frame{Tagged: true, Prio: tag / 8192, Drop: tag/4096%2 == 1, VID: tag % 4096, Type: 0x0800})
	}
}

// B2: each pair of bytes where a type stands, without a tag and behind one.
func TestParseEachType(t *testing.T) {
	for typ := range 1 << 16 {
		b := append(make([]byte, 12), byte(typ>>8), byte(typ))
		behind := append(make([]byte, 12), 0x81, 0x00, 0x20, 0x03, byte(typ>>8), byte(typ))
		switch {
		case typ < api.MinType:
			wantNoFrame(t, "length", b, api.ErrKind)
			wantNoFrame(t, "length behind a tag", behind, api.ErrKind)
		case typ == api.TagType:
			wantNoFrame(t, "tag's beginning", b, api.ErrForm)
			wantNoFrame(t, "two tags", behind, api.ErrKind)
		default:
			wantFrame(t, "type", b, api.Frame{Type: typ})
			wantFrame(t, "type behind a tag", behind, api.Frame{Tagged: true, Prio: 1, VID: 3, Type: typ})
		}
	}
}

// B2: each length up to where data begins.
func TestParseTooShort(t *testing.T) {
	p, _ := Bytes(plain())
	for n := range 14 {
		wantNoFrame(t, "plain", p[:n], api.ErrForm)
	}
	for n := 14; n <= len(p); n++ {
		wantFrame(t, "plain", p[:n], with(plain(), func(f *api.Frame) { f.Data = f.Data[:n-14] }))
	}
	b, _ := Bytes(tagged())
	for n := range 18 {
		wantNoFrame(t, "tagged", b[:n], api.ErrForm)
	}
	for n := 18; n <= len(b); n++ {
		wantFrame(t, "tagged", b[:n], with(tagged(), func(f *api.Frame) { f.Data = f.Data[:n-18] }))
	}
	wantNoFrame(t, "short, and from many", bytes.Repeat([]byte{0xFF}, 13), api.ErrForm)
	wantNoFrame(t, "short tag, and from many", unhex(t, "000000000000"+"ffffffffffff"+"8100"+"ffff"+"06"), api.ErrForm)
}

// B2: what Wrong says of the frame that is read.
func TestParseWrongFrames(t *testing.T) {
	wantNoFrame(t, "from many", unhex(t, "000000000000"+"010000000000"+"0800"), api.ErrFit)
	wantNoFrame(t, "from many, VID, type", unhex(t, "000000000000"+"030000000001"+"8100"+"0fff"+"0000"), api.ErrFit)
	wantNoFrame(t, "VID, type", unhex(t, "000000000000"+"000000000001"+"8100"+"0fff"+"0000"), api.ErrRange)
	wantFrame(t, "to many", unhex(t, "ffffffffffff"+"fe0000000001"+"0800"), api.Frame{Dst: api.MaxAddr, Src: 0xFE0000000001, Type: 0x0800})
	most := append(unhex(t, "000000000000"+"000000000001"+"0800"), make([]byte, api.MaxData)...)
	wantFrame(t, "most data", most, api.Frame{Src: 1, Type: 0x0800, Data: make([]byte, api.MaxData)})
	wantNoFrame(t, "too much data", append(most, 0), api.ErrMuch)
	mostTagged := append(unhex(t, "000000000000"+"000000000001"+"8100"+"0000"+"0800"), make([]byte, api.MaxData)...)
	wantFrame(t, "most data behind a tag", mostTagged, api.Frame{Src: 1, Tagged: true, Type: 0x0800, Data: make([]byte, api.MaxData)})
	wantNoFrame(t, "too much data behind a tag", append(mostTagged, 0), api.ErrMuch)
}

// B2: what can be read is written as it was read: there is one way alone to write a frame.
func TestParseThenBytes(t *testing.T) {
	b, _ := Bytes(tagged())
	for i := range b {
		for x := range 256 {
			c := bytes.Clone(b)
			c[i] = byte(x)
			f, err := Parse(c)
			if err != api.OK {
				continue
			}
			again, err := Bytes(f)
			if err != api.OK || !bytes.Equal(again, c) {
				t.Errorf("%x is read, and written as %x (%d)", c, again, err)
			}
		}
	}
}

// Z3: nil and a list without entries are the same.
func TestNilIsEmpty(t *testing.T) {
	for _, none := range [][]byte{nil, {}, make([]byte, 40)[20:20]} {
		wantNoFrame(t, "nothing", none, api.ErrForm)
		wantBytes(t, "plain without data", with(plain(), func(f *api.Frame) { f.Data = none }), unhex(t, "0a0b0c0d0e0f"+"020304050607"+"0800"))
		b, err := Bytes(with(tagged(), func(f *api.Frame) { f.Data = none }))
		if err != api.OK || len(b) != 18 {
			t.Errorf("%d bytes come, and %d, of a frame with a tag, without data", len(b), err)
		}
	}
}

// spaced is b, with full room ahead of it and behind it.
func spaced(b []byte) (whole, part []byte) {
	whole = bytes.Repeat([]byte{0xA5}, len(b)+80)
	copy(whole[40:], b)
	return whole, whole[40 : 40+len(b)]
}

// Z2: neither a list nor the spare room behind it is changed, or looked at.
func TestArgumentsAreOnlyRead(t *testing.T) {
	for _, f := range []api.Frame{plain(), tagged()} {
		want, _ := Bytes(f)
		whole, data := spaced(f.Data)
		kept := bytes.Clone(whole)
		wantBytes(t, "with spare room", with(f, func(f *api.Frame) { f.Data = data }), want)
		if !bytes.Equal(whole, kept) {
			t.Error("Bytes changed data, or the room beside it")
		}
		for n := range len(want) {
			whole, b := spaced(want[:n])
			kept := bytes.Clone(whole)
			exact := bytes.Clone(b)
			got, err := Parse(b)
			again, errAgain := Parse(exact)
			if err != errAgain || !same(got, again) {
				t.Errorf("%d bytes: %+v and %d come with spare room, %+v and %d without", n, got, err, again, errAgain)
			}
			if !bytes.Equal(whole, kept) {
				t.Error("Parse changed its bytes, or the room beside them")
			}
		}
	}
}

// Z2: nothing of what was handed in is kept, and what is answered is the caller's, its spare room too.
func TestAnswersAreNewMemory(t *testing.T) {
	for _, f := range []api.Frame{plain(), tagged()} {
		data := bytes.Clone(f.Data)
		g := with(f, func(f *api.Frame) { f.Data = data })
		b, _ := Bytes(g)
		want, _ := Bytes(f)
		fill(data, 0xEE)
		if !bytes.Equal(b, want) {
			t.Error("Bytes' answer changed with the data")
		}
		fill(data, 0x11)
		fill(b, 0x22)
		if !bytes.Equal(data, bytes.Repeat([]byte{0x11}, len(data))) {
			t.Error("the data changed with Bytes' answer")
		}
		whole, part := spaced(want)
		h, _ := Parse(part)
		fill(whole, 0xEE)
		if !same(h, f) {
			t.Error("Parse's answer changed with its bytes")
		}
		fill(h.Data, 0x33)
		if !bytes.Equal(whole, bytes.Repeat([]byte{0xEE}, len(whole))) {
			t.Error("the bytes changed with Parse's answer")
		}
	}
}

// fill takes the spare room too.
func fill(b []byte, x byte) {
	b = b[:cap(b)]
	for i := range b {
		b[i] = x
	}
}

// Z2: two answers share nothing, even of empty data.
func TestAnswersShareNothing(t *testing.T) {
	for _, f := range []api.Frame{plain(), {Type: 0x0800}} {
		want, _ := Bytes(f)
		a, _ := Bytes(f)
		g, _ := Parse(want)
		h, _ := Parse(want)
		fill(a, 0x44)
		fill(g.Data, 0x55)
		if b, _ := Bytes(f); !bytes.Equal(b, want) || !same(h, f) {
			t.Error("an answer changed with another one")
		}
	}
}

// Z1: what is answered hangs on nothing but the arguments, whoever else asks at the same time.
func TestManyAskAtOnce(t *testing.T) {
	var all sync.WaitGroup
	for i := range 8 {
		all.Go(func() {
			f := with(tagged(), func(f *api.Frame) { f.Src, f.VID = uint64(i), i })
			for range 200 {
				b, _ := Bytes(f)
				if g, err := Parse(b); err != api.OK || !same(f, g) {
					t.Errorf("%+v and %d come, not %+v", g, err, f)
				}
			}
		})
	}
	all.Wait()
}

// Z1: nothing panics, and what is read passes Wrong.
func FuzzParse(f *testing.F) {
	p, _ := Bytes(plain())
	b, _ := Bytes(tagged())
	f.Add(p)
	f.Add(b)
	f.Add([]byte{})
	f.Fuzz(func(t *testing.T, b []byte) {
		g, err := Parse(b)
		if err != api.OK {
			return
		}
		if again, err := Bytes(g); err != api.OK || !bytes.Equal(again, b) {
			t.Errorf("%x is read, and written as %x (%d)", b, again, err)
		}
	})
}
