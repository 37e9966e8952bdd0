package md5

import (
	"bytes"
	"crypto/hmac"
	known "crypto/md5"
	"encoding/binary"
	"encoding/hex"
	"strings"
	"sync"
	"testing"
)

// pattern has n bytes, most of them unlike those beside them.
func pattern(n int) []byte {
	b := make([]byte, n)
	for i := range b {
		b[i] = byte(i*37 + i/256 + 5)
	}
	return b
}

func knownSum(b []byte) []byte {
	s := known.Sum(b)
	return s[:]
}

func knownMac(key, b []byte) []byte {
	m := hmac.New(known.New, key)
	m.Write(b)
	return m.Sum(nil)
}

func wantHex(t *testing.T, what string, got []byte, want string) {
	t.Helper()
	if hex.EncodeToString(got) != want {
		t.Errorf("%q: %x comes, not %s", what, got, want)
	}
}

func wantBytes(t *testing.T, what string, n int, got, want []byte) {
	t.Helper()
	if !bytes.Equal(got, want) {
		t.Errorf("%s, %d bytes: %x comes, not %x", what, n, got, want)
	}
}

// A1: the digests that RFC 1321 lists.
func TestSumOfRFC1321(t *testing.T) {
	for _, c := range []struct{ text, want string }{
		{"", "d41d8cd98f00b204e9800998ecf8427e"},
		{"a", "0cc175b9c0f1b6a831c399e269772661"},
		{"abc", "900150983cd24fb0d6963f7d28e17f72"},
		{"message digest", "f96b697d7cb7938d525a2f31aaf161d0"},
		{"abcdefghijklmnopqrstuvwxyz", "c3fcd3d76192e4007dfb496cca67e13b"},
		{"ABCDEFGHIJKLMNOPQRSTUVWXYZabcdefghijklmnopqrstuvwxyz0123456789", "d174ab98d277d9f5a5611c2c9f419d9f"},
		{strings.Repeat("1234567890", 8), "57edf4a22be3c955ac49da2e2107b67a"},
	} {
		wantHex(t, c.text, Sum([]byte(c.text)), c.want)
	}
}

// A1: every length about the ends of the first blocks, where the length fits behind the 0x80 (up to 55 of 64), and where it does not.
func TestSumOfEachLength(t *testing.T) {
	b := pattern(5 * 64)
	for n := range len(b) + 1 {
		wantBytes(t, "Sum", n, Sum(b[:n]), knownSum(b[:n]))
	}
}

// A1: bytes of one kind alone, so that no 0x80 and no byte 0 is taken for what stands behind b.
func TestSumOfOneByteOverAndOver(t *testing.T) {
	for _, x := range []byte{0x00, 0x80, 0xFF} {
		for n := range 130 {
			b := bytes.Repeat([]byte{x}, n)
			wantBytes(t, "Sum", n, Sum(b), knownSum(b))
		}
	}
}

// A1: the length's second byte, third and fourth are needed as well.
func TestSumOfLongLists(t *testing.T) {
	for _, n := range []int{8191, 8192, 65536, 1<<21 - 1, 1 << 21, 1<<21 + 9} {
		b := pattern(n)
		wantBytes(t, "Sum", n, Sum(b), knownSum(b))
	}
}

// A1: all eight bytes of the length, as if so many blocks had gone ahead (a list that needs them is too long for a test).
func TestSumTellsAllOfTheLength(t *testing.T) {
	const done = 0x1123456789ABCDC0
	rest := pattern(13)
	block := append(pattern(13), 0x80)
	block = append(block, make([]byte, 64-8-len(block))...)
	block = binary.LittleEndian.AppendUint64(block, 8*(done+13))
	wantBytes(t, "Sum behind others", 13, sumBehind(start(), done, rest), digest(mix(start(), block)))
}

// A2: the digests that RFC 2104 lists.
func TestMacOfRFC2104(t *testing.T) {
	for _, c := range []struct {
		key, text []byte
		want      string
	}{
		{bytes.Repeat([]byte{0x0B}, 16), []byte("Hi There"), "9294727a3638bb1c13f48ef8158bfc9d"},
		{[]byte("Jefe"), []byte("what do ya want for nothing?"), "750c783e6ab0b503eaa86e310a5db738"},
		{bytes.Repeat([]byte{0xAA}, 16), bytes.Repeat([]byte{0xDD}, 50), "56be34521d144c88dbb8c733f0e8b3f6"},
	} {
		wantHex(t, string(c.text), Mac(c.key, c.text), c.want)
	}
}

// A2: every key up to 64 bytes, and longer ones, which are taken by their Sum.
func TestMacOfEachKeyLength(t *testing.T) {
	key, b := pattern(3*64), []byte("hedges grow")
	for n := range len(key) + 1 {
		wantBytes(t, "Mac by a key", n, Mac(key[:n], b), knownMac(key[:n], b))
	}
}

// A2: b stands behind a block already, and its length is told with that block.
func TestMacOfEachLength(t *testing.T) {
	b := pattern(3 * 64)
	for _, k := range []int{0, 1, 16, 64, 65, 130} {
		key := pattern(k)
		for n := range len(b) + 1 {
			wantBytes(t, "Mac", n, Mac(key, b[:n]), knownMac(key, b[:n]))
		}
	}
}

// A2: 64 bytes are a key as they are, 65 are not.
func TestMacKeyEdges(t *testing.T) {
	b := []byte("hedges grow")
	for _, n := range []int{0, 1, 16, 63} {
		padded := make([]byte, 64)
		copy(padded, pattern(n))
		wantBytes(t, "Mac by a key with bytes 0 behind it", n, Mac(padded, b), Mac(pattern(n), b))
	}
	for _, n := range []int{65, 66, 128, 1000} {
		wantBytes(t, "Mac by a key's Sum", n, Mac(knownSum(pattern(n)), b), Mac(pattern(n), b))
	}
	wantBytes(t, "Mac by a key as it is", 64, Mac(pattern(64), b), knownMac(pattern(64), b))
}

// Z3: nil and a list without entries are the same.
func TestNilIsEmpty(t *testing.T) {
	none := [][]byte{nil, {}, pattern(9)[4:4]}
	key, b := pattern(20), pattern(70)
	for _, x := range none {
		wantHex(t, "Sum", Sum(x), "d41d8cd98f00b204e9800998ecf8427e")
		wantBytes(t, "Mac without a key", 70, Mac(x, b), knownMac(nil, b))
		wantBytes(t, "Mac without bytes", 0, Mac(key, x), knownMac(key, nil))
		for _, y := range none {
			wantHex(t, "Mac", Mac(x, y), "74e6f7298a9c2d168935f58c001bad88")
		}
	}
}

// guarded is a list of n bytes of a pattern with spare room full of fill, and all of it.
func guarded(n int, fill byte) (b, all []byte) {
	all = append(pattern(n), bytes.Repeat([]byte{fill}, 200)...)
	return all[:n], all
}

// lengths at which what stands behind a list would go into its spare room.
var lengths = []int{0, 1, 16, 55, 56, 63, 64, 65, 119, 120, 128, 200}

// Z2: neither lists nor their spare room are changed, and nothing hangs on the spare room.
func TestHandedInIsOnlyRead(t *testing.T) {
	for _, n := range lengths {
		for _, fill := range []byte{0, 0xA5} {
			key, allKey := guarded(n, fill)
			b, all := guarded(n, fill)
			_, before := guarded(n, fill)
			wantBytes(t, "Sum with spare room", n, Sum(b), knownSum(pattern(n)))
			wantBytes(t, "Mac with spare room", n, Mac(key, b), knownMac(pattern(n), pattern(n)))
			wantBytes(t, "what was handed in", n, all, before)
			wantBytes(t, "the key that was handed in", n, allKey, before)
		}
	}
}

// Z2: one list as key and as bytes is no trouble, nor are two that lie over each other.
func TestSharedArguments(t *testing.T) {
	for _, n := range lengths {
		all := pattern(2 * n)
		wantBytes(t, "Mac by itself", n, Mac(all, all), knownMac(pattern(2*n), pattern(2*n)))
		wantBytes(t, "Mac by its half", n, Mac(all[:n], all[n/2:]), knownMac(all[:n], all[n/2:]))
	}
}

// scribble writes over a list, and over its spare room.
func scribble(b []byte) {
	b = b[:cap(b)]
	for i := range b {
		b[i] ^= 0xFF
	}
}

// Z2: what is answered is the caller's: it does not change with what was handed in, nor with another answer, and changing it changes neither.
func TestAnswersAreNewMemory(t *testing.T) {
	for _, n := range lengths {
		key, b := pattern(n), pattern(n)
		sum, mac := Sum(b), Mac(key, b)
		otherSum, otherMac := Sum(b), Mac(key, b)
		scribble(otherSum)
		scribble(otherMac)
		wantBytes(t, "b behind a changed answer", n, b, pattern(n))
		wantBytes(t, "key behind a changed answer", n, key, pattern(n))
		scribble(b)
		scribble(key)
		wantBytes(t, "Sum", n, sum, knownSum(pattern(n)))
		wantBytes(t, "Mac", n, mac, knownMac(pattern(n), pattern(n)))
		wantBytes(t, "Sum, again", n, Sum(pattern(n)), sum)
		wantBytes(t, "Mac, again", n, Mac(pattern(n), pattern(n)), mac)
	}
}

// Z1: what a call answers hangs on its arguments alone, whatever else goes on.
func TestCallsAtOnce(t *testing.T) {
	var group sync.WaitGroup
	for n := range 64 {
		group.Go(func() {
			b := pattern(3 * n)
			wantBytes(t, "Sum", 3*n, Sum(b), knownSum(b))
			wantBytes(t, "Mac", 3*n, Mac(b, b), knownMac(b, b))
		})
	}
	group.Wait()
}

func FuzzMac(f *testing.F) {
	f.Add([]byte("key"), []byte("text"))
	f.Add(pattern(64), pattern(55))
	f.Add(pattern(65), pattern(56))
	f.Fuzz(func(t *testing.T, key, b []byte) {
		wantBytes(t, "Sum", len(b), Sum(b), knownSum(b))
		wantBytes(t, "Mac", len(b), Mac(key, b), knownMac(key, b))
	})
}
