package reply

// list returns a function, the number of the bytes that were read, and these.
func list(f uint8, read []byte) []byte {
	return append([]byte{f, byte(len(read))}, read...)
}

// listed returns what stands behind a function and the number of the bytes that follow, if that is as many.
func listed(b []byte) ([]byte, bool) {
	if len(b) < 2 || len(b) != 2+int(b[1]) {
		return nil, false
	}
	return b[2:], true
}

// pair returns the two numbers behind a function, if nothing else stands there.
func pair(b []byte) (uint16, uint16, bool) {
	if len(b) != 5 {
		return 0, 0, false
	}
	return number(b[1:]), number(b[3:]), true
}

// put appends numbers of two bytes, the upper byte first.
func put(b []byte, l ...uint16) []byte {
	for _, n := range l {
		b = append(b, byte(n>>8), byte(n))
	}
	return b
}

// number returns the number that b begins with; it has two bytes at least.
func number(b []byte) uint16 { return uint16(b[0])<<8 | uint16(b[1]) }
