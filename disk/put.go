package disk

import (
	"slices"

	"pupil/api"
)

// room is how many names, and how many bytes, there is room for.
type room struct{ files, bytes int }

// check tells whether these can be names, and whether there is power.
func (d *Disk) check(names ...string) api.Errno {
	switch {
	case slices.ContainsFunc(names, func(name string) bool { return !isName(name) }):
		return api.ErrName
	case !d.on:
		return api.ErrOff
	}
	return api.OK
}

// find tells the file that has a name.
func (d *Disk) find(name string) (*file, api.Errno) {
	if e := d.check(name); e != api.OK {
		return nil, e
	}
	f, known := d.now[name]
	if !known {
		return nil, api.ErrFile
	}
	return f, api.OK
}

// put does a work on a file's bytes. If no file has the name, one is made ahead of it.
func (d *Disk) put(kind int, name string, b []byte) api.Errno {
	f, e := d.find(name)
	if e != api.OK && e != api.ErrFile {
		return e
	}
	files, bytes := len(d.now), d.now.bytes()+len(b)
	switch {
	case e == api.ErrFile:
		files++
	case kind == WorkWrite:
		bytes -= len(f.now)
	}
	if files > d.room.files || bytes > d.room.bytes {
		return api.ErrFull
	}
	if e == api.ErrFile {
		f = &file{}
		d.do(work{Work: api.Work{Kind: WorkName, To: name}, file: f})
	}
	d.do(work{Work: api.Work{Kind: kind, Name: name, Len: len(b)}, file: f, bytes: slices.Clone(b)})
	d.burn()
	return api.OK
}
