package disk

import "pupil/api"

// file is a file: its bytes as they are, and as they are fast, each in memory of its own.
type file struct{ now, fast []byte }

// names are names, each of one file, which has no other one.
type names map[string]*file

// give lets a file have a name, and no other one; a file that had it has none any more.
func (n names) give(f *file, name string) {
	for old, g := range n {
		if g == f {
			delete(n, old)
		}
	}
	n[name] = f
}

// take lets a file have no name, if it has this one.
func (n names) take(f *file, name string) {
	if n[name] == f {
		delete(n, name)
	}
}

// has tells whether a file has a name.
func (n names) has(f *file) bool {
	for _, g := range n {
		if g == f {
			return true
		}
	}
	return false
}

// bytes tells how many bytes the files have, as they are.
func (n names) bytes() int {
	sum := 0
	for _, f := range n {
		sum += len(f.now)
	}
	return sum
}

// isName tells whether a file can have a name.
func isName(name string) bool {
	if len(name) < 1 || len(name) > api.MaxFile {
		return false
	}
	for _, r := range name {
		switch {
		case r >= 'a' && r <= 'z', r >= '0' && r <= '9', r == '-', r == '.', r == '_':
		default:
			return false
		}
	}
	return true
}
