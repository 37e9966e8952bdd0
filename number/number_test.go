package number

import (
	"bytes"
	"encoding/binary"
	"math"
	"testing"
)

func TestWithin(t *testing.T) {
	for _, c := range []struct {
		n, least, most int
		want           bool
	}{
		{0, 0, 0, true}, {1, 0, 0, false}, {-1, 0, 0, false}, {3, 3, 7, true}, {7, 3, 7, true}, {2, 3, 7, false}, {8, 3, 7, false},
		{5, 7, 3, false}, {math.MinInt, 0, 5, false}, {math.MaxInt, 0, 5, false}, {math.MinInt, math.MinInt, math.MaxInt, true}, {math.MaxInt, math.MinInt, math.MaxInt, true},
	} {
		if got := Within(c.n, c.least, c.most); got != c.want {
			t.Errorf("%d from %d to %d: %v comes", c.n, c.least, c.most, got)
		}
	}
}

func numbers() []uint64 {
	return []uint64{0, 1, 0xFF, 0x100, 0x0102, 0x010203040506, 0x0102030405060708, 1 << 63, math.MaxUint64}
}

// As many low bytes as there is room for are put, the high ones first, and nothing beside them.
func TestPut(t *testing.T) {
	for _, n := range numbers() {
		eight := binary.BigEndian.AppendUint64(nil, n)
		for size := range 9 {
			room := bytes.Repeat([]byte{0xA5}, 12)
			want := bytes.Clone(room)
			copy(want[2:], eight[8-size:])
			Put(room[2:2+size], n)
			if !bytes.Equal(room, want) {
				t.Errorf("%x in %d bytes: %x comes, not %x", n, size, room, want)
			}
		}
	}
	nine := bytes.Repeat([]byte{0xA5}, 9)
	Put(nine, math.MaxUint64)
	if nine[0] != 0 {
		t.Errorf("%x stands ahead of eight bytes", nine[0])
	}
	Put(nil, 5)
}

func TestOf(t *testing.T) {
	for _, n := range numbers() {
		eight := binary.BigEndian.AppendUint64(nil, n)
		for size := range 9 {
			want := n
			if size < 8 {
				want = n % (1 << (8 * size))
			}
			if got := Of(eight[8-size:]); got != want {
				t.Errorf("%d bytes of %x: %x comes, not %x", size, n, got, want)
			}
		}
		if got := Of(append([]byte{9}, eight...)); got != n {
			t.Errorf("nine bytes: %x comes, not %x", got, n)
		}
	}
	if got := Of(nil); got != 0 {
		t.Errorf("%d comes of nil", got)
	}
}
