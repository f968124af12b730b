package loss_test

import (
	"reflect"
	"slices"
	"sync"
	"testing"

	"pupil/api"
)

// room is a tape and a call whose lists are pieces of longer ones, with something ahead of them and spare room behind them.
type room struct {
	asked
	nodes []api.Node
	lists [][]int
}

// guard lays a list into a longer one.
func (r *room) guard(l []int) []int {
	full := slices.Concat([]int{-7, -8}, l, []int{-9, -10, -11})
	r.lists = append(r.lists, full)
	return full[2 : 2+len(l)]
}

func guarded(x asked) *room {
	r := &room{asked: x, nodes: slices.Concat([]api.Node{{Op: -5}}, x.tape.Nodes, []api.Node{{Op: -6}, {Op: -7}, {Op: -8}})}
	for i, n := range x.tape.Nodes {
		r.nodes[i+1].In, r.nodes[i+1].Bits = r.guard(n.In), r.guard(n.Bits)
	}
	r.tape.Nodes = r.nodes[1 : 1+len(x.tape.Nodes)]
	r.call.nodes = r.guard(x.call.nodes)
	return r
}

// whole tells all that stands in it, in memory of its own.
func (r *room) whole() (api.Tape, [][]int) {
	var lists [][]int
	for _, l := range r.lists {
		lists = append(lists, slices.Clone(l))
	}
	return cloned(api.Tape{Nodes: r.nodes}), lists
}

// fill writes over a list and its spare room.
func fill(l []int) {
	for i := range cap(l) {
		l[:cap(l)][i] = -99
	}
}

// spoilNodes writes over nodes, their lists and all spare room.
func spoilNodes(nodes []api.Node) {
	for _, n := range nodes {
		fill(n.In)
		fill(n.Bits)
	}
	for i := range cap(nodes) {
		nodes[:cap(nodes)][i] = api.Node{Op: 99}
	}
}

// spoil writes over all of it.
func (r *room) spoil() {
	for _, l := range r.lists {
		fill(l)
	}
	for i := range r.nodes {
		r.nodes[i] = api.Node{Op: 99}
	}
}

// cases has calls of all kinds, on tapes with nodes of all kinds, some of them refused.
func cases() []asked {
	var l []asked
	for _, width := range widths {
		for _, x := range rights(width) {
			rich := behind(x.tape, constant(1, 3, width, 4, 5, 6), takes(api.OpGlueCols, 1, 1), takes(api.OpNeg, 1), constant(2, 1, 32, 7, 8))
			wrong, _ := x.call.spoilt()
			none, endless := x.call, x.call
			none.delta, none.kind = 0, 0
			endless.delta, endless.factor = api.Inf, api.Inf
			for _, c := range []call{x.call, wrong, none, endless, x.call.withNode(0, -1), x.call.withNode(1, len(rich.Nodes))} {
				l = append(l, asked{rich, c})
			}
			l = append(l, x, asked{behind(rich, takes(api.OpNeg)), x.call}, asked{padded(rich, 1024), x.call}, asked{padded(rich, 1022), x.call})
		}
	}
	return l
}

// TestP1507Memory: no call changes what it was given, nor its spare room, nor keeps it; what is answered shares no memory with it, nor with another answer; the same call tells the same again.
func TestP1507Memory(t *testing.T) {
	told, refused := 0, 0
	for _, x := range cases() {
		r := guarded(x)
		nodes, lists := r.whole()
		unchanged := func() bool {
			now, nowLists := r.whole()
			return sameTape(now, nodes) && reflect.DeepEqual(nowLists, lists)
		}
		got, number, e := r.call.do(r.tape)
		again, second, f := r.call.do(r.tape)
		if !unchanged() {
			t.Fatalf("%v: what was given has changed", x.call)
		}
		if e != f || number != second || !sameTape(got, again) {
			t.Fatalf("%v: another answer", x.call)
		}
		want := cloned(got)
		spoilNodes(got.Nodes)
		if !unchanged() || !sameTape(again, want) {
			t.Fatalf("%v: an answer shares memory with what was given, or with another", x.call)
		}
		if once, third, g := r.call.do(r.tape); g != e || third != number || !sameTape(once, want) {
			t.Fatalf("%v: another answer", x.call)
		}
		r.spoil()
		if !sameTape(again, want) {
			t.Fatalf("%v: an answer keeps what was given", x.call)
		}
		if e == api.OK {
			told++
		} else {
			refused++
		}
	}
	if told < 150 || refused < 300 {
		t.Errorf("%d are told, %d refused", told, refused)
	}
}

// TestP1507Lists: each list of an answer is its own: writing over one, and its spare room, turns no other.
func TestP1507Lists(t *testing.T) {
	for _, x := range cases() {
		got, _, _ := x.call.do(x.tape)
		var now, want [][]int
		for _, n := range got.Nodes {
			now = append(now, n.In, n.Bits)
			want = append(want, slices.Clone(n.In), slices.Clone(n.Bits))
		}
		for i := range now {
			fill(now[i])
			for k := i + 1; k < len(now); k++ {
				if !slices.Equal(now[k], want[k]) {
					t.Fatalf("%v: lists %d and %d share memory", x.call, i, k)
				}
			}
		}
	}
}

// TestP1507Alone: however many ask at once, and whatever was asked ahead, each is answered the same.
func TestP1507Alone(t *testing.T) {
	var work sync.WaitGroup
	for _, x := range cases() {
		want, number, e := x.call.do(x.tape)
		for range 3 {
			work.Go(func() {
				if got, n, f := x.call.do(x.tape); f != e || n != number || !sameTape(got, want) {
					t.Errorf("%v: another answer", x.call)
				}
			})
		}
	}
	work.Wait()
}
