package disk_test

import (
	"bytes"
	"slices"
	"strings"

	"pupil/api"
)

// plain is the chapter told once more, by definitions over lists: the files as they are fast, whether they have a name or not, and the works. The files as they are have no place of their own: all works are done anew, whenever they are asked for.
type plain struct {
	names, room int
	off         bool
	fuse        []int // The steps that are left; without a fuse there is none of them.
	fast        []plainFile
	works       []plainWork
}

// plainFile is a file; one without a name has "".
type plainFile struct{ name, bytes string }

type plainWork struct {
	told  api.Work
	file  int
	bytes string
}

func plainOf(names, room int) *plain { return &plain{names: names, room: room} }

// behind tells what files become, if a work is done to them with a k.
func behind(files []plainFile, w plainWork, k int) []plainFile {
	files = slices.Clone(files)
	if k <= 0 {
		return files
	}
	first := w.bytes[:min(k, len(w.bytes))]
	switch f := &files[w.file]; w.told.Kind {
	case 1:
		f.bytes = first
	case 2:
		f.bytes += first
	case 3:
		for i := range files {
			if files[i].name == w.told.To {
				files[i].name = ""
			}
		}
		f.name = w.told.To
	case 4:
		if f.name == w.told.Name {
			f.name = ""
		}
	}
	return files
}

// are tells the files as they are.
func (p *plain) are() []plainFile {
	files := p.fast
	for _, w := range p.works {
		files = behind(files, w, len(w.bytes)+1)
	}
	return files
}

// find tells which file has a name, -1 for none.
func (p *plain) find(name string) int {
	return slices.IndexFunc(p.are(), func(f plainFile) bool { return f.name == name })
}

// first tells the first error of those that hold.
func first(errors ...api.Errno) api.Errno {
	for _, e := range errors {
		if e != api.OK {
			return e
		}
	}
	return api.OK
}

func when(holds bool, e api.Errno) api.Errno {
	if holds {
		return e
	}
	return api.OK
}

func badName(name string) api.Errno {
	return when(len(name) == 0 || len(name) > 32 || strings.Trim(name, "abcdefghijklmnopqrstuvwxyz0123456789-._") != "" || strings.ContainsFunc(name, func(r rune) bool {
		return !strings.ContainsRune("abcdefghijklmnopqrstuvwxyz0123456789-._", r)
	}), api.ErrName)
}

func (p *plain) noPower() api.Errno { return when(p.off, api.ErrOff) }

func (p *plain) noFile(name string) api.Errno { return when(p.find(name) < 0, api.ErrFile) }

// step makes the power fail, if this was the last one.
func (p *plain) step() api.Errno {
	for i := range p.fuse {
		p.fuse[i]--
		p.off = p.fuse[i] == 0
	}
	return api.OK
}

// size tells how many names, and bytes of files that have one, there are.
func size(files []plainFile) (names, bytes int) {
	for _, f := range files {
		if f.name != "" {
			names, bytes = names+1, bytes+len(f.bytes)
		}
	}
	return names, bytes
}

func (p *plain) put(kind int, name string, b []byte) api.Errno {
	if e := first(badName(name), p.noPower()); e != api.OK {
		return e
	}
	then := *p
	then.works = slices.Clone(p.works)
	at := p.find(name)
	if at < 0 {
		at = len(then.fast)
		then.fast = append(slices.Clone(p.fast), plainFile{})
		then.works = append(then.works, plainWork{told: api.Work{Kind: 3, To: name}, file: at})
	}
	then.works = append(then.works, plainWork{told: api.Work{Kind: kind, Name: name, Len: len(b)}, file: at, bytes: string(b)})
	if names, bytes := size(then.are()); names > p.names || bytes > p.room {
		return api.ErrFull
	}
	*p = then
	return p.step()
}

func (p *plain) Write(name string, b []byte) api.Errno { return p.put(1, name, b) }

func (p *plain) Append(name string, b []byte) api.Errno { return p.put(2, name, b) }

// settle makes works fast, those that are chosen.
func (p *plain) settle(chosen func(plainWork) bool) {
	for _, w := range p.works {
		if chosen(w) {
			p.fast = behind(p.fast, w, len(w.bytes)+1)
		}
	}
	p.works = slices.DeleteFunc(slices.Clone(p.works), chosen)
}

func (p *plain) Flush(name string) api.Errno {
	if e := first(badName(name), p.noPower(), p.noFile(name)); e != api.OK {
		return e
	}
	at := p.find(name)
	p.settle(func(w plainWork) bool { return w.file == at && w.told.Kind <= 2 })
	return p.step()
}

func (p *plain) Rename(from, to string) api.Errno {
	if e := first(badName(from), badName(to), p.noPower(), p.noFile(from)); e != api.OK {
		return e
	}
	if from != to {
		p.works = append(p.works, plainWork{told: api.Work{Kind: 3, Name: from, To: to}, file: p.find(from)})
	}
	return p.step()
}

func (p *plain) Remove(name string) api.Errno {
	if e := first(badName(name), p.noPower(), p.noFile(name)); e != api.OK {
		return e
	}
	p.works = append(p.works, plainWork{told: api.Work{Kind: 4, Name: name}, file: p.find(name)})
	return p.step()
}

func (p *plain) Sync() api.Errno {
	if p.off {
		return api.ErrOff
	}
	p.settle(func(w plainWork) bool { return w.told.Kind >= 3 })
	return p.step()
}

func (p *plain) Read(name string) ([]byte, api.Errno) {
	if e := first(badName(name), p.noPower(), p.noFile(name)); e != api.OK {
		return nil, e
	}
	return bytes.Clone([]byte(p.are()[p.find(name)].bytes)), api.OK
}

func (p *plain) List() []string {
	var l []string
	if !p.off {
		for _, f := range p.are() {
			if f.name != "" {
				l = append(l, f.name)
			}
		}
	}
	slices.Sort(l)
	return l
}

func (p *plain) Free() (int, int) {
	if p.off {
		return 0, 0
	}
	names, bytes := size(p.are())
	return p.names - names, p.room - bytes
}

func (p *plain) Fuse(steps int) api.Errno {
	if e := first(when(steps < 0, api.ErrArg), p.noPower()); e != api.OK {
		return e
	}
	p.fuse, p.off = []int{steps}, steps == 0
	return api.OK
}

func (p *plain) On() bool { return !p.off }

func (p *plain) Pending() []api.Work {
	var l []api.Work
	for _, w := range p.works {
		l = append(l, w.told)
	}
	return l
}

func (p *plain) Crash(keep []int) {
	for i, w := range p.works {
		k := 0
		if i < len(keep) {
			k = keep[i]
		}
		p.fast = behind(p.fast, w, k)
	}
	p.fast = slices.DeleteFunc(slices.Clone(p.fast), func(f plainFile) bool { return f.name == "" })
	p.works, p.fuse, p.off = nil, nil, false
}
