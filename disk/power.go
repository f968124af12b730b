package disk

// power tells whether there is power, and whether it fails behind some more steps.
type power struct {
	on    bool
	fused bool
	left  int
}

// light puts a fuse of so many steps in; without any the power fails at once.
func (p *power) light(steps int) { *p = power{on: steps > 0, fused: true, left: steps} }

// burn takes a step that was made of the fuse, if there is one.
func (p *power) burn() {
	if p.fused {
		p.light(p.left - 1)
	}
}
