// Package md5 has MD5, and HMAC over it: see doc/01-md5.md.
package md5

import "math/bits"

const (
	wordSize   = 4
	blockSize  = 64
	lengthSize = 8
	sumSize    = 16
	innerMask  = 0x36
	outerMask  = 0x5C
)

// state is the four words that go from block to block.
type state [4]uint32

var turns = [4][4]int{
	{7, 12, 17, 22},
	{5, 9, 14, 20},
	{4, 11, 16, 23},
	{6, 10, 15, 21},
}

var addends = [64]uint32{
	0xD76AA478, 0xE8C7B756, 0x242070DB, 0xC1BDCEEE, 0xF57C0FAF, 0x4787C62A, 0xA8304613, 0xFD469501,
	0x698098D8, 0x8B44F7AF, 0xFFFF5BB1, 0x895CD7BE, 0x6B901122, 0xFD987193, 0xA679438E, 0x49B40821,
	0xF61E2562, 0xC040B340, 0x265E5A51, 0xE9B6C7AA, 0xD62F105D, 0x02441453, 0xD8A1E681, 0xE7D3FBC8,
	0x21E1CDE6, 0xC33707D6, 0xF4D50D87, 0x455A14ED, 0xA9E3E905, 0xFCEFA3F8, 0x676F02D9, 0x8D2A4C8A,
	0xFFFA3942, 0x8771F681, 0x6D9D6122, 0xFDE5380C, 0xA4BEEA44, 0x4BDECFA9, 0xF6BB4B60, 0xBEBFBC70,
	0x289B7EC6, 0xEAA127FA, 0xD4EF3085, 0x04881D05, 0xD9D4D039, 0xE6DB99E5, 0x1FA27CF8, 0xC4AC5665,
	0xF4292244, 0x432AFF97, 0xAB9423A7, 0xFC93A039, 0x655B59C3, 0x8F0CCC92, 0xFFEFF47D, 0x85845DD1,
	0x6FA87E4F, 0xFE2CE6E0, 0xA3014314, 0x4E0811A1, 0xF7537E82, 0xBD3AF235, 0x2AD7D2BB, 0xEB86D391,
}

// Sum is the MD5 digest of b.
func Sum(b []byte) []byte {
	return sumBehind(start(), 0, b)
}

// Mac is the HMAC of b by key, over MD5.
func Mac(key, b []byte) []byte {
	k := keyBlock(key)
	inner := sumBehind(mixKey(k, innerMask), blockSize, b)
	return sumBehind(mixKey(k, outerMask), blockSize, inner)
}

func start() state {
	return state{0x67452301, 0xEFCDAB89, 0x98BADCFE, 0x10325476}
}

// keyBlock is an array, so that a short key gets its bytes 0 behind it in new memory.
func keyBlock(key []byte) [blockSize]byte {
	var k [blockSize]byte
	if len(key) > blockSize {
		key = Sum(key)
	}
	copy(k[:], key)
	return k
}

func mixKey(k [blockSize]byte, mask byte) state {
	for i := range k {
		k[i] ^= mask
	}
	return mix(start(), k[:])
}

// sumBehind ends a digest of which done bytes (whole blocks) are in s already: so neither Sum nor Mac needs a copy of b.
func sumBehind(s state, done int, b []byte) []byte {
	length := uint64(done) + uint64(len(b))
	whole := len(b) - len(b)%blockSize
	s = mixAll(s, b[:whole])
	return digest(mixLast(s, b[whole:], length*8))
}

// mixLast takes the less than a block that is left, and what stands behind it: one block, or two where the length does not fit.
func mixLast(s state, rest []byte, bitCount uint64) state {
	var last [2 * blockSize]byte
	n := copy(last[:], rest)
	last[n] = 0x80
	size := blockSize
	if n+1+lengthSize > blockSize {
		size = 2 * blockSize
	}
	for i := range lengthSize {
		last[size-lengthSize+i] = byte(bitCount >> (8 * i))
	}
	return mixAll(s, last[:size])
}

func mixAll(s state, blocks []byte) state {
	for at := 0; at < len(blocks); at += blockSize {
		s = mix(s, blocks[at:at+blockSize])
	}
	return s
}

func mix(s state, block []byte) state {
	w := wordsOf(block)
	a, b, c, d := s[0], s[1], s[2], s[3]
	for i := range addends {
		f, k := choose(i, b, c, d)
		turned := bits.RotateLeft32(a+f+addends[i]+w[k], turns[i/16][i%4])
		a, d, c, b = d, c, b, b+turned
	}
	return state{s[0] + a, s[1] + b, s[2] + c, s[3] + d}
}

func wordsOf(block []byte) [blockSize / wordSize]uint32 {
	var w [blockSize / wordSize]uint32
	for i := range w {
		p := block[wordSize*i : wordSize*(i+1)]
		w[i] = uint32(p[0]) | uint32(p[1])<<8 | uint32(p[2])<<16 | uint32(p[3])<<24
	}
	return w
}

// choose tells, for step i, what its round makes of three words, and which word of the block it takes.
func choose(i int, b, c, d uint32) (uint32, int) {
	switch i / 16 {
	case 0:
		return b&c | ^b&d, i
	case 1:
		return b&d | c&^d, (5*i + 1) % 16
	case 2:
		return b ^ c ^ d, (3*i + 5) % 16
	}
	return c ^ (b | ^d), 7 * i % 16
}

func digest(s state) []byte {
	out := make([]byte, sumSize)
	for i := range out {
		out[i] = byte(s[i/wordSize] >> (8 * (i % wordSize)))
	}
	return out
}
