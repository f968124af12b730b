package cluster_test

import (
	"math/rand"
	"reflect"
	"slices"
	"testing"

	"pupil/api"
	"pupil/cluster"
)

// roomy makes the same thing, each list of it laid into a longer one, with something ahead of it and room behind it; the longer ones are kept.
func roomy(v reflect.Value, kept *[]reflect.Value) reflect.Value {
	switch v.Kind() {
	case reflect.Struct:
		made := reflect.New(v.Type()).Elem()
		for i := range v.NumField() {
			made.Field(i).Set(roomy(v.Field(i), kept))
		}
		return made
	case reflect.Slice:
		n := v.Len()
		full := reflect.MakeSlice(v.Type(), n+5, n+5)
		spoil(full)
		for i := range n {
			full.Index(2 + i).Set(roomy(v.Index(i), kept))
		}
		*kept = append(*kept, full)
		return full.Slice(2, 2+n)
	}
	return v
}

// laid makes a request once more in that way, and tells the lists of it.
func laid(q request) (request, []reflect.Value) {
	var kept []reflect.Value
	again := q
	again.p = roomy(reflect.ValueOf(q.p), &kept).Interface().(api.Plan)
	again.s = roomy(reflect.ValueOf(q.s), &kept).Interface().(api.Set)
	again.x = roomy(reflect.ValueOf(q.x), &kept).Interface().(api.State)
	return again, kept
}

// whole tells all that stands in lists, in memory of its own.
func whole(lists []reflect.Value) []any {
	var l []any
	var ignored []reflect.Value
	for _, v := range lists {
		l = append(l, roomy(v, &ignored).Interface())
	}
	return l
}

// eachList goes over all lists within a thing, the inner ones first.
func eachList(v reflect.Value, do func(list reflect.Value)) {
	switch v.Kind() {
	case reflect.Struct:
		for i := range v.NumField() {
			eachList(v.Field(i), do)
		}
	case reflect.Slice:
		for i := range v.Len() {
			eachList(v.Index(i), do)
		}
		do(v)
	}
}

// spoil writes over all lists within a thing, and their spare room.
func spoil(v reflect.Value) {
	eachList(v, func(list reflect.Value) {
		full := list.Slice(0, list.Cap())
		for i := range full.Len() {
			switch x := full.Index(i); x.Kind() {
			case reflect.Int:
				x.SetInt(-99)
			case reflect.Bool:
				x.SetBool(!x.Bool())
			default:
				x.SetZero()
			}
		}
	})
}

// answers are all that a cluster tells, each in a value of its own.
func answers(c *cluster.Cluster) []reflect.Value {
	return []reflect.Value{reflect.ValueOf(c.Mail()), reflect.ValueOf(c.Up()), reflect.ValueOf(c.State()), reflect.ValueOf(c.Traces())}
}

// wantApart wants no two lists within these things to share memory, spare room included.
func wantApart(t *testing.T, what string, things ...reflect.Value) {
	t.Helper()
	var spans [][2]uintptr
	for _, v := range things {
		eachList(v, func(list reflect.Value) {
			if size := uintptr(list.Cap()) * list.Type().Elem().Size(); size > 0 {
				spans = append(spans, [2]uintptr{list.Pointer(), list.Pointer() + size})
			}
		})
	}
	slices.SortFunc(spans, func(a, b [2]uintptr) int {
		if a[0] < b[0] {
			return -1
		}
		return 1
	})
	for i := range max(0, len(spans)-1) {
		if spans[i+1][0] < spans[i][1] {
			t.Errorf("%s: two lists share memory", what)
			return
		}
	}
}

// under are requests with a script of each, at whose end there are messages of both kinds, doubled ones too, and traces.
func under(t *testing.T) ([]request, [][]call) {
	t.Helper()
	r := rand.New(rand.NewSource(2211))
	var requests []request
	var scripts [][]call
	for _, w := range widths {
		for _, q := range trainings(t, r, w) {
			q.workers, q.patience = 3, 2
			requests = append(requests, q)
			scripts = append(scripts, []call{{op: callDouble}, {op: callDeliver, a: 1}, {op: callDeliver, a: 1}, {op: callDeliver}, {op: callDouble, a: 2}, {op: callDeliver, a: 1}, {op: callDeliver, a: 1}, {op: callDeliver, a: 2},
				{op: callTick}, {op: callTick}, {op: callDeliver, a: 1}, {op: callDouble}, {op: callMove, a: 2}, {op: callCrash, a: 1}})
		}
	}
	return requests, scripts
}

// TestP2211Given: what is handed in is not changed, what stands about it neither, and is not looked at again: what is done to it later turns nothing.
func TestP2211Given(t *testing.T) {
	requests, scripts := under(t)
	for i, q := range requests {
		_, want := play(madeFrom(t, q.p, q.s, q.x, q.workers, q.steps, q.patience), scripts[i])
		again, kept := laid(q)
		before := whole(kept)
		c := madeFrom(t, again.p, again.s, again.x, q.workers, q.steps, q.patience)
		n := made(t, again.p, again.s, q.workers, q.steps, q.patience)
		if !reflect.DeepEqual(whole(kept), before) {
			t.Errorf("%d: what is handed in is changed", i)
		}
		_, first := play(made(t, q.p, q.s, q.workers, q.steps, q.patience), scripts[i])
		d := madeFrom(t, again.p, again.s, again.x, q.workers, q.steps, q.patience)
		play(d, scripts[i])
		deliverAll(t, d)
		if !reflect.DeepEqual(whole(kept), before) {
			t.Errorf("%d: what was handed in is changed later", i)
		}
		for _, list := range kept {
			spoil(list)
		}
		if _, got := play(c, scripts[i]); !slices.EqualFunc(got, want, seen.same) {
			t.Errorf("%d: From's cluster hangs on what was handed in", i)
		}
		if _, got := play(n, scripts[i]); !slices.EqualFunc(got, first, seen.same) {
			t.Errorf("%d: New's cluster hangs on what was handed in", i)
		}
	}
}

// TestP2211Apart: no two lists of an answer, of two answers, of two clusters, and of what was handed in, share memory, spare room included, those of parts too.
func TestP2211Apart(t *testing.T) {
	requests, scripts := under(t)
	parts := 0
	for i, q := range requests {
		q, _ := laid(q)
		given := []reflect.Value{reflect.ValueOf(q.p), reflect.ValueOf(q.s), reflect.ValueOf(q.x)}
		c := madeFrom(t, q.p, q.s, q.x, q.workers, q.steps, q.patience)
		d := madeFrom(t, q.p, q.s, q.x, q.workers, q.steps, q.patience)
		e := made(t, q.p, q.s, q.workers, q.steps, q.patience)
		wantApart(t, "at the beginning", slices.Concat(given, answers(c), answers(c), answers(d), answers(e))...)
		for k, x := range scripts[i] {
			x.do(c)
			x.do(d)
			wantApart(t, "on the way", slices.Concat(given, answers(c), answers(c), answers(d))...)
			for _, m := range c.Mail() {
				if k > 0 && m.Kind == api.MailPart && m.Err == api.OK {
					parts++
				}
			}
		}
	}
	if parts < 50 {
		t.Errorf("%d parts", parts)
	}
}

// TestP2211Answered: what is done to an answer turns nothing that is told later, on the way to the end.
func TestP2211Answered(t *testing.T) {
	requests, scripts := under(t)
	for i, q := range requests {
		c := madeFrom(t, q.p, q.s, q.x, q.workers, q.steps, q.patience)
		d := madeFrom(t, q.p, q.s, q.x, q.workers, q.steps, q.patience)
		check := func() {
			t.Helper()
			for _, v := range answers(c) {
				spoil(v)
			}
			if got, want := look(c), look(d); !got.same(want) {
				t.Fatalf("%d: %v, want %v", i, got, want)
			}
		}
		check()
		for _, x := range scripts[i] {
			x.do(c)
			x.do(d)
			check()
		}
		for len(d.Mail()) > 0 {
			all(t, c.Deliver(0), d.Deliver(0))
			check()
		}
	}
}

// TestP2211Two: two clusters of the same lists have nothing in common: what one is told turns nothing of the other.
func TestP2211Two(t *testing.T) {
	requests, scripts := under(t)
	for i, q := range requests {
		c := madeFrom(t, q.p, q.s, q.x, q.workers, q.steps, q.patience)
		d := madeFrom(t, q.p, q.s, q.x, q.workers, q.steps, q.patience)
		before := look(d)
		play(c, scripts[i])
		deliverAll(t, c)
		if after := look(d); !after.same(before) {
			t.Errorf("%d: %v, then %v", i, before, after)
		}
		at := look(c)
		_, want := play(madeFrom(t, q.p, q.s, q.x, q.workers, q.steps, q.patience), scripts[i])
		if _, got := play(d, scripts[i]); !slices.EqualFunc(got, want, seen.same) || !look(c).same(at) {
			t.Errorf("%d: two clusters have something in common", i)
		}
	}
}

// TestP2211One: a list that is handed in at several places at once.
func TestP2211One(t *testing.T) {
	for _, w := range widths {
		p := scalar(w, api.OpMul)
		p.Rule = api.Rule{Kind: api.RuleMomentum, Momentum: bitsOf(0.5)}
		m := vals(3, 1, w, 1, 2, 3)
		s := api.Set{X: m, Y: m}
		x := behind(t, p, s, 1)
		x.Slots[0][0] = x.Params[0]
		one := oneMachine(t, p, s, x, 3)
		c := madeFrom(t, p, s, x, 2, 3, 1)
		wantApart(t, "one list", slices.Concat(answers(c), []reflect.Value{reflect.ValueOf(m.Bits), reflect.ValueOf(x.Params)})...)
		deliverAll(t, c)
		wantRun(t, c, one)
		wantDone(t, "three steps", c, api.Where{}, api.OK)
	}
}
