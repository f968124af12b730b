package cluster

import (
	"pupil/api"
	"pupil/part"
)

// tally is what answers have told so far: the part that theirs come to, and where the least row stops, if some do.
type tally struct {
	part  api.Part
	where api.Where
	err   api.Errno
}

// put puts an answer to the rest.
func (t *tally) put(a answer) {
	switch {
	case a.err != api.OK:
		t.stop(a)
	case len(t.part.Rows) == 0:
		t.part = a.part
	default:
		t.part, _ = part.Join(t.part, a.part) // Parts of one plan, that have no row in common, of finite floats.
	}
}

// stop notes where an answer stops, if no row below that one is noted.
func (t *tally) stop(a answer) {
	if t.err == api.OK || a.where.Row < t.where.Row {
		t.where, t.err = a.where, a.err
	}
}
