package frame

// The check number is a CRC of 16 bits: these are its start and its polynomial.
const (
	checkStart = 65535
	checkWith  = 4129
	checkTop   = 32768
)

func checkNumber(b []byte) uint16 {
	n := uint16(checkStart)
	for _, x := range b {
		n ^= uint16(x) << 8
		for range 8 {
			n = checkStep(n)
		}
	}
	return n
}

func checkStep(n uint16) uint16 {
	if n >= checkTop {
		return n<<1 ^ checkWith
	}
	return n << 1
}
