package tape

import (
	"slices"

	"pupil/apart"
	"pupil/api"
)

// Draft is a right tape that grows node by node: each node is looked at once, however many come behind it. It keeps what it is handed until it tells its tape.
type Draft struct {
	nodes []api.Node
	look  *look
}

// Begin begins with a tape's nodes: the Err of the first one that is not right. Missing numbers of inputs and parameters don't matter.
func Begin(t api.Tape) (_ *Draft, e api.Errno) {
	defer func() { e = caught(recover()).Err }()
	l := over(t.Nodes)
	return &Draft{nodes: slices.Clone(t.Nodes), look: l}, api.OK
}

// Put puts a node behind the others, and tells its number. Where it is not right, the draft stays as it is.
func (d *Draft) Put(n api.Node) (_ int, e api.Errno) {
	defer func() { e = caught(recover()).Err }()
	d.look.node(n)
	d.nodes = append(d.nodes, n)
	return len(d.nodes) - 1, api.OK
}

// Shape tells a node's shape; ErrNode: there is no such node.
func (d *Draft) Shape(node int) (api.Shape, api.Errno) {
	if !d.look.ahead(node) {
		return api.Shape{}, api.ErrNode
	}
	return d.look.shapes[node], api.OK
}

// Tape tells the tape, in new memory.
func (d *Draft) Tape() api.Tape { return apart.Tape(api.Tape{Nodes: d.nodes}) }
