package disk

import "pupil/api"

// work is something that is not fast yet: what is told of it, the file that it is of, and the bytes that were handed in.
type work struct {
	api.Work
	file  *file
	bytes []byte
}

// ofNames tells whether it is a work of names; all others are of a file's bytes.
func (w work) ofNames() bool { return w.Kind == WorkName || w.Kind == WorkRemove }

// name does a work of names to names.
func (w work) name(n names) {
	if w.Kind == WorkName {
		n.give(w.file, w.To)
	} else {
		n.take(w.file, w.Name)
	}
}

// onto tells what a file's bytes become, if the first few of the work's come to them. It may use their spare room.
func (w work) onto(old []byte, few int) []byte {
	if w.Kind == WorkWrite {
		old = nil
	}
	return append(old, w.bytes[:min(few, len(w.bytes))]...)
}

// do does a work to the files as they are; it is pending then.
func (d *Disk) do(w work) {
	if w.ofNames() {
		w.name(d.now)
	} else {
		w.file.now = w.onto(w.file.now, w.Len)
	}
	d.pending = append(d.pending, w)
}

// fasten does a work to the files as they are fast; of a work of bytes the first few.
func (d *Disk) fasten(w work, few int) {
	if w.ofNames() {
		w.name(d.fast)
	} else {
		w.file.fast = w.onto(w.file.fast, few)
	}
}

// settle makes those works fast that are chosen, and leaves the others pending.
func (d *Disk) settle(chosen func(work) bool) {
	var left []work
	for _, w := range d.pending {
		if chosen(w) {
			d.fasten(w, w.Len)
		} else {
			left = append(left, w)
		}
	}
	d.pending = left
}

// forget lets go of files that have no name, where no work of names is pending that could give them one again: of works on their bytes there is nothing left but what is told.
func (d *Disk) forget() {
	for i, w := range d.pending {
		if !d.fast.has(w.file) {
			d.pending[i] = work{Work: w.Work, file: &file{}}
		}
	}
}
