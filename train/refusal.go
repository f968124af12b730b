package train

import (
	"errors"
	"strconv"

	"pupil/api"
)

// cause is an error's number, as an error.
type cause api.Errno

func (c cause) Error() string { return "error " + strconv.Itoa(int(c)) }

// refusal is that something is refused: where, if that is told, and what it came of.
type refusal struct {
	where api.Where
	of    error
}

func (r refusal) Error() string {
	w := r.where
	return "kind " + strconv.Itoa(w.Kind) + ", row " + strconv.Itoa(w.Row) + ", node " + strconv.Itoa(w.Node) + ", place " + strconv.Itoa(w.At) + ": " + r.of.Error()
}

func (r refusal) Unwrap() error { return r.of }

// refused tells the refusal that an error of a layer below makes; none, if it is OK.
func refused(where api.Where, e api.Errno) error {
	if e == api.OK {
		return nil
	}
	return refusal{where, cause(e)}
}

// told tells a refusal as the calls tell it.
func told(err error) (api.Where, api.Errno) {
	var r refusal
	var c cause
	if !errors.As(err, &r) || !errors.As(err, &c) {
		return api.Where{}, api.OK
	}
	return r.where, api.Errno(c)
}

// number tells the error of a refusal that has no Where.
func number(err error) api.Errno {
	_, e := told(err)
	return e
}

// inTurn does one piece of work behind the other, up to the first that is refused.
func inTurn(work ...func() error) error {
	for _, do := range work {
		if err := do(); err != nil {
			return err
		}
	}
	return nil
}
