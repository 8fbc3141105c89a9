package disk

const unlimited = -1 // sparks

// failure is what a method panics with, and catches, when there is no power.
type failure struct{}

// Off reports whether the power is off.
func (d *Disk) Off() bool { return d.made() && d.off }

// Sparks sets how many sparks are left; a number below 0: unlimited.
func (d *Disk) Sparks(n int) {
	if d.made() {
		d.sparks = n
	}
}

// demandPower fails if the power is off.
func (d *Disk) demandPower() {
	if d.off {
		panic(failure{})
	}
}

// spend uses up a spark; if there is none, the power goes off, and it fails.
func (d *Disk) spend() {
	if d.sparks == 0 {
		d.off = true
		panic(failure{})
	}
	if d.sparks > 0 {
		d.sparks--
	}
}
