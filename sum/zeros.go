package sum

const (
	size    = 32          // bits of a register
	highest = 1 << 31     // the register with its highest bit alone
	period  = 1<<size - 1 // after so many zero bytes each register is what it was
)

// zeros is how a register takes in some zero bytes: what becomes of each of its bits alone, the lowest one first. A register is the exclusive or of its bits, and becomes that of what they become.
type zeros [size]uint32

// Zeros returns the register after it took in n zero bytes.
func Zeros(sum uint32, n int) uint32 {
	z := making(Add(highest, 0))
	// Whole periods are left out, to save half of the steps.
	for left := uint64(max(0, n)) % period; left > 0; left /= 2 {
		if left%2 == 1 {
			sum = z.apply(sum)
		}
		z = z.twice()
	}
	return sum
}

// making returns how those zero bytes are taken in that make top of the highest bit. Zero bytes do no more than shift, and each bit is the next higher one after a shift: so it becomes what that one becomes, after a shift.
func making(top uint32) zeros {
	var z zeros
	for i := range size {
		z[size-1-i] = top
		top = shift(top)
	}
	return z
}

// apply returns what becomes of a register.
func (z *zeros) apply(sum uint32) uint32 {
	out := uint32(0)
	for i, x := range z {
		out ^= sum >> i & 1 * x
	}
	return out
}

// twice returns how twice as many zero bytes are taken in. Only the highest number goes through the others: if each of them did, that would take 32 times as many steps.
func (z *zeros) twice() zeros { return making(z.apply(z[size-1])) }
