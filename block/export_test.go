package block

import (
	"pupil/api"
	"pupil/tape"
)

// Constants tells the constants n and √n in a width, also of such n as are more than a node has columns.
func Constants(n, width int) (whole, root api.Node) {
	d, _ := tape.Begin(api.Tape{})
	p := &piece{draft: d, width: width}
	p.whole(n)
	p.root(n)
	nodes := d.Tape().Nodes
	return nodes[0], nodes[1]
}
