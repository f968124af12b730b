package eval

import (
	"errors"
	"strconv"

	"pupil/api"
	"pupil/tensor"
)

// stop is why a matrix can't be a node's value, and at which of its elements.
type stop struct {
	err api.Errno
	at  int
}

func (s stop) Error() string {
	return "error " + strconv.Itoa(int(s.err)) + " at element " + strconv.Itoa(s.at)
}

// there is a stop, and at which node. What looks at a matrix does not know that: it is laid around it.
type there struct {
	node  int
	cause error
}

func (t there) Error() string { return "node " + strconv.Itoa(t.node) + ": " + t.cause.Error() }

func (t there) Unwrap() error { return t.cause }

// fault tells a stop at a node as the calls tell it.
func fault(err error) api.Fault {
	var t there
	var s stop
	if !errors.As(err, &t) || !errors.As(err, &s) {
		return api.Fault{}
	}
	return api.Fault{Err: s.err, Node: t.node, At: s.at}
}

// holds wants a matrix to fit a shape, to be finite, and to have the bits that are wanted.
func holds(m api.Matrix, s api.Shape, want api.Matrix) error {
	if err := fits(m, s); err != nil {
		return err
	}
	if err := finite(m); err != nil {
		return err
	}
	for at, bits := range want.Bits {
		if m.Bits[at] != bits {
			return stop{api.ErrBits, at}
		}
	}
	return nil
}

// fits wants a matrix to be in form and to have a shape.
func fits(m api.Matrix, s api.Shape) error {
	if e := tensor.Fits(m, s); e != api.OK {
		return stop{err: e}
	}
	return nil
}

// finite wants all elements of a matrix to be finite.
func finite(m api.Matrix) error {
	if at, e := tensor.Finite(m); e != api.OK {
		return stop{e, at}
	}
	return nil
}
