package tape_test

import (
	"reflect"
	"slices"
	"sync"
	"testing"

	"pupil/api"
	"pupil/tape"
)

// room is a tape whose lists are pieces of longer ones, with something ahead of them and spare room behind them.
type room struct {
	tape  api.Tape
	nodes []api.Node
	lists [][]int
}

// guard tells a list as a piece of a longer one, and that one.
func guard(l []int) ([]int, []int) {
	full := slices.Concat([]int{-7, -8}, l, []int{-9, -10, -11})
	return full[2 : 2+len(l)], full
}

// guarded lays a tape into such lists.
func guarded(t api.Tape) room {
	r := room{nodes: slices.Concat([]api.Node{{Op: -5}}, t.Nodes, []api.Node{{Op: -6}, {Op: -7}})}
	for i, n := range t.Nodes {
		var in, bits []int
		n.In, in = guard(n.In)
		n.Bits, bits = guard(n.Bits)
		r.nodes[i+1], r.lists = n, append(r.lists, in, bits)
	}
	r.tape.Nodes = r.nodes[1 : 1+len(t.Nodes)]
	return r
}

// whole tells all that stands in it, in memory of its own.
func (r room) whole() (api.Tape, [][]int) {
	var lists [][]int
	for _, l := range r.lists {
		lists = append(lists, slices.Clone(l))
	}
	return cloned(api.Tape{Nodes: r.nodes}), lists
}

// spoil writes over all of it.
func (r room) spoil() {
	for _, l := range r.lists {
		fill(l)
	}
	for i := range r.nodes {
		r.nodes[i] = api.Node{Op: 99}
	}
}

// fill writes over a list and its spare room.
func fill(l []int) {
	for i := range cap(l) {
		l[:cap(l)][i] = -99
	}
}

// answer is what all calls of one tape and one node tell.
type answer struct {
	shapes                      []api.Shape
	put, pruned                 api.Tape
	inputs, params, needed, old []int
	f                           api.Fault
	at                          int
	errs                        [5]api.Errno
}

func asked(t api.Tape, node int, n api.Node) answer {
	var a answer
	a.shapes, a.f = tape.Check(t)
	a.put, a.at, a.errs[0] = tape.Put(t, n)
	a.inputs, a.errs[1] = tape.Inputs(t)
	a.params, a.errs[2] = tape.Params(t)
	a.needed, a.errs[3] = tape.Needed(t, node)
	a.pruned, a.old, a.errs[4] = tape.Prune(t, node)
	return a
}

// lists tells all lists of numbers in an answer.
func (a answer) lists() [][]int {
	list := [][]int{a.inputs, a.params, a.needed, a.old}
	for _, n := range slices.Concat(a.put.Nodes, a.pruned.Nodes) {
		list = append(list, n.In, n.Bits)
	}
	return list
}

// kept tells an answer in memory of its own.
func (a answer) kept() answer {
	a.shapes, a.put, a.pruned = slices.Clone(a.shapes), cloned(a.put), cloned(a.pruned)
	a.inputs, a.params, a.needed, a.old = slices.Clone(a.inputs), slices.Clone(a.params), slices.Clone(a.needed), slices.Clone(a.old)
	return a
}

// few tells some of the given tapes, and some that are refused.
func few() []api.Tape {
	return append(given()[:10], api.Tape{}, behind(net(), takes(api.OpNeg, 9)), tapeOf(input(1, 1, 1, 64)), behind(net(), constant(1, 2, 64, 0, api.NaN)), long(1024), long(1025))
}

// TestP908Memory: no call changes what it was given, nor its spare room, nor keeps it; what is answered shares no memory with it.
func TestP908Memory(t *testing.T) {
	for _, made := range few() {
		nodes := []int{0, len(made.Nodes) / 2, len(made.Nodes) - 1, len(made.Nodes)}
		for _, n := range []api.Node{constant(1, 3, 64, 4, 5, 6), takes(api.OpGlueCols, 0, 0), takes(api.OpNeg, -1)} {
			for _, node := range nodes {
				r, more := guarded(made), guarded(tapeOf(n))
				before, lists := r.whole()
				moreBefore, moreLists := more.whole()
				got, again := asked(r.tape, node, more.tape.Nodes[0]), asked(r.tape, node, more.tape.Nodes[0])
				want := got.kept()
				unchanged := func() bool {
					return sameTape(api.Tape{Nodes: r.nodes}, before) && reflect.DeepEqual(r.lists, lists) && sameTape(api.Tape{Nodes: more.nodes}, moreBefore) && reflect.DeepEqual(more.lists, moreLists)
				}
				if !unchanged() {
					t.Fatalf("what was given has changed: %v", r)
				}
				got.spoil()
				if !unchanged() || !reflect.DeepEqual(again, want) {
					t.Fatalf("an answer shares memory with what was given, or with another: %v", made)
				}
				r.spoil()
				more.spoil()
				if !reflect.DeepEqual(again, want) {
					t.Fatalf("an answer keeps what was given: %v", made)
				}
			}
		}
	}
}

// spoil writes over all lists of an answer.
func (a answer) spoil() {
	for _, l := range a.lists() {
		fill(l)
	}
	for _, l := range [][]api.Node{a.put.Nodes, a.pruned.Nodes} {
		for i := range cap(l) {
			l[:cap(l)][i] = api.Node{Op: 99}
		}
	}
	for i := range cap(a.shapes) {
		a.shapes[:cap(a.shapes)][i] = api.Shape{Rows: -99}
	}
}

// TestP908Lists: each list of an answer is its own: writing over one, and its spare room, turns no other.
func TestP908Lists(t *testing.T) {
	for _, made := range few()[:12] {
		got := asked(made, len(made.Nodes)-1, constant(1, 2, 32, 1, 2))
		want := got.kept()
		now, then := got.lists(), want.lists()
		for i, l := range now {
			fill(l)
			fill(then[i])
			if !reflect.DeepEqual(trimmed(now), trimmed(then)) {
				t.Fatalf("lists of one answer share memory: %v", made)
			}
		}
	}
}

// trimmed tells lists without spare room, nil for an empty one.
func trimmed(lists [][]int) [][]int {
	var out [][]int
	for _, l := range lists {
		out = append(out, append([]int(nil), l...))
	}
	return out
}

// TestP908Alone: however many ask at once, and whatever was asked ahead, each is answered the same.
func TestP908Alone(t *testing.T) {
	var work sync.WaitGroup
	for _, made := range few() {
		n := takes(api.OpNeg, 0)
		want := asked(made, len(made.Nodes)/2, n)
		for range 3 {
			work.Go(func() {
				if got := asked(made, len(made.Nodes)/2, n); !reflect.DeepEqual(got, want) {
					t.Errorf("another answer of %v", made)
				}
			})
		}
	}
	work.Wait()
}
