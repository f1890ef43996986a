package graph_test

import (
	"slices"
	"testing"

	"lamella/api"
	"lamella/graph"
)

// The chapter's example.
func TestExample(t *testing.T) {
	a, b, c := ref(0, 1), ref(1, 1), ref(2, 1)
	l := []api.Inst{inst(a, 1), inst(b, 2, a, c), inst(c, 3, b)}
	plans(t, "all Done", l, nil, refs(a, b, c), nil)
	plans(t, "without a", l[1:], nil, nil, refs(a))
}

// P6.4: nothing at all.
func TestPlanOfNothing(t *testing.T) {
	plans(t, "nil", nil, nil, nil, nil)
	plans(t, "empty", []api.Inst{}, []api.Ref{}, nil, nil)
	plans(t, "done alone", nil, refs(ref(0, 1), ref(5, 5)), nil, nil)
	plans(t, "no Deps", []api.Inst{{Status: api.Done}}, nil, refs(ref(0, 0)), nil)
	plans(t, "zero", []api.Inst{{}}, nil, nil, nil)
}

// P6.4: only what has the status Done is ready, and only such ones' needs are wanted.
func TestPlanByStatus(t *testing.T) {
	a, b, c := ref(0, 1), ref(0, 2), ref(1, 1)
	for _, status := range []int{api.None, api.Seen, api.Taken, -1, 4, 1 << 40} {
		x := with(inst(a, 1, c), status)
		plans(t, "it isn't Done", []api.Inst{x}, nil, nil, nil)
		plans(t, "nor what is needed, whose own needs are wanted, too", []api.Inst{x, inst(b, 2, a)}, nil, nil, refs(a, c))
		plans(t, "it is in done", []api.Inst{x, inst(b, 2, a)}, refs(a), refs(b), nil)
		plans(t, "it needs what is Done", []api.Inst{x, inst(c, 2)}, nil, refs(c), nil)
		plans(t, "it is between two that are Done", []api.Inst{inst(b, 1, a), x, inst(c, 2)}, nil, refs(c), refs(a))
	}
}

// P6.4: what is in done isn't planned, needs nothing, and is enough for those that need it, be it a node or not.
func TestPlanBehindDone(t *testing.T) {
	a, b, c, d := ref(0, 1), ref(0, 2), ref(1, 1), ref(2, 5)
	l := []api.Inst{inst(a, 1, d), inst(b, 2, a), inst(c, 3, b)}
	plans(t, "none", l, nil, nil, refs(d))
	plans(t, "what is no node", l, refs(d), refs(a, b, c), nil)
	plans(t, "what needs another one", l, refs(a), refs(b, c), nil)
	plans(t, "one in the midst", l, refs(b), refs(c), refs(d))
	plans(t, "the last one", l, refs(c), nil, refs(d))
	plans(t, "one but the last", l, refs(c, b), nil, refs(d))
	plans(t, "all, some of them twice", l, refs(c, b, a, b, c), nil, nil)
	plans(t, "others", l, refs(ref(9, 9), d, ref(7, 7)), refs(a, b, c), nil)
	plans(t, "it isn't Done", []api.Inst{with(inst(a, 1, d), api.Seen), inst(b, 2, a)}, refs(a), refs(b), nil)
	plans(t, "Seqs count only among what is ready", []api.Inst{inst(a, 9), inst(b, 1, a), inst(c, 2)}, refs(a), refs(b, c), nil)
	plans(t, "a round that it opens", []api.Inst{inst(a, 1, b), inst(b, 2, c), inst(c, 3, a)}, refs(a), refs(c, b), nil)
}

// P6.4: wants rise, each once, and are of all that can't be ready, however far.
func TestWants(t *testing.T) {
	a, b, c, d, e, f := ref(0, 1), ref(0, 2), ref(1, 1), ref(2, 5), ref(0, 7), ref(6, 1)
	plans(t, "rising, each once", []api.Inst{inst(a, 1, f, d, f), inst(b, 1, e, d), inst(c, 1, a, b)}, nil, nil, refs(e, d, f))
	plans(t, "far", []api.Inst{inst(a, 1, b), inst(b, 2, c), inst(c, 3, d)}, nil, nil, refs(d))
	plans(t, "of a round", []api.Inst{inst(a, 1, b), inst(b, 2, a, d), inst(c, 3), inst(e, 4, c)}, nil, refs(c, e), refs(d))
	plans(t, "through what isn't Done", []api.Inst{inst(a, 1, b), with(inst(b, 2, c), api.Seen), with(inst(c, 3, d, a), api.Taken)}, nil, nil, refs(b, c, d))
	plans(t, "some are ready", []api.Inst{inst(a, 1), inst(b, 2, a, d), inst(c, 3, a)}, nil, refs(a, c), refs(d))
}

// P6.4: each way in which two nodes and a stranger can need one another, with each status and each done.
func TestPlanOfTwo(t *testing.T) {
	three := refs(ref(0, 1), ref(1, 1), ref(0, 2))
	pick := func(bits int) []api.Ref {
		var l []api.Ref
		for i, r := range three {
			if bits>>i&1 == 1 {
				l = append(l, r)
			}
		}
		return l
	}
	for deps := range 64 {
		for status := range 16 {
			for done := range 8 {
				for seqs := range 3 {
					l := []api.Inst{with(inst(three[0], 1, pick(deps)...), status%4), with(inst(three[1], seqs, pick(deps/8)...), status/4)}
					order, wants := modelPlan(l, pick(done))
					plans(t, "two", l, pick(done), order, wants)
				}
			}
		}
	}
}

// P6.2, P6.4: draws, held against the model.
func TestPlanDrawn(t *testing.T) {
	d := newDice(65)
	ready, wanted, both := 0, 0, 0
	for i := range 12000 {
		l, done := d.insts(14, 1+i%4), d.some(i%9)
		order, wants := graph.Plan(l, done)
		o, w := modelPlan(l, done)
		if !slices.Equal(order, o) || !slices.Equal(wants, w) {
			t.Fatalf("draw %d, %v, done %v: %v, %v, not %v, %v", i, l, done, order, wants, o, w)
		}
		if len(o) > 1 {
			ready++
		}
		if len(w) > 0 {
			wanted++
		}
		if len(o) > 1 && len(w) > 0 {
			both++
		}
	}
	if ready < 2000 || wanted < 2000 || both < 500 {
		t.Errorf("the draws are too poor: %d, %d, %d", ready, wanted, both)
	}
}

// P6.2 to P6.4, rule 6: in which order nodes, Deps and done come changes nothing.
func TestOrderOfArguments(t *testing.T) {
	d := newDice(66)
	for range 400 {
		l, done := d.part(d.world(10, 3)), d.some(3)
		order, wants := graph.Plan(l, done)
		rows := graph.Components(l)
		for range 5 {
			d.Shuffle(len(l), func(i, j int) { l[i], l[j] = l[j], l[i] })
			d.Shuffle(len(done), func(i, j int) { done[i], done[j] = done[j], done[i] })
			for _, x := range l {
				d.Shuffle(len(x.Deps), func(i, j int) { x.Deps[i], x.Deps[j] = x.Deps[j], x.Deps[i] })
			}
			plans(t, "another order", l, done, order, wants)
			falls(t, "another order", l, rows...)
		}
	}
}
