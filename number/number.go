// Package number has what several layers do with whole numbers: hold them against a range, and write them as bytes, the high ones first.
package number

// Within says whether n is from least to most.
func Within(n, least, most int) bool {
	return least <= n && n <= most
}

// Put fills to with the low bytes of n.
func Put(to []byte, n uint64) {
	for i := range to {
		to[i] = byte(n >> (8 * (len(to) - 1 - i)))
	}
}

// Of is the number of which from is the bytes; of more than eight only the last ones count.
func Of(from []byte) uint64 {
	n := uint64(0)
	for _, x := range from {
		n = n<<8 | uint64(x)
	}
	return n
}
