package graph_test

import (
	"math"
	"slices"
	"testing"

	"lamella/api"
	"lamella/graph"
)

// P6.1: by Lead, then by Index, whatever the numbers.
func TestLess(t *testing.T) {
	l := refs(ref(math.MinInt, math.MaxInt), ref(-1, 5), ref(0, math.MinInt), ref(0, -1), ref(0, 0), ref(0, 1), ref(0, 2), ref(0, math.MaxInt), ref(1, -7), ref(1, 1), ref(6, 1), ref(math.MaxInt, math.MinInt), ref(math.MaxInt, 0))
	for i, a := range l {
		for j, b := range l {
			if graph.Less(a, b) != (i < j) {
				t.Errorf("Less(%v, %v): %v", a, b, i >= j)
			}
		}
	}
}

// P6.1: all that stand in the rows, rising, each once.
func TestRefs(t *testing.T) {
	for _, c := range []struct {
		rows [][]api.Ref
		want []api.Ref
	}{
		{nil, nil},
		{[][]api.Ref{nil}, nil},
		{[][]api.Ref{{}, nil, {}}, nil},
		{[][]api.Ref{{ref(0, 0)}}, refs(ref(0, 0))},
		{[][]api.Ref{{ref(1, 1), ref(1, 1)}}, refs(ref(1, 1))},
		{[][]api.Ref{{ref(1, 1), ref(0, 2), ref(0, 1)}}, refs(ref(0, 1), ref(0, 2), ref(1, 1))},
		{[][]api.Ref{{ref(2, 1), ref(0, 9)}, nil, {ref(0, 9), ref(1, 1)}, {ref(2, 1)}}, refs(ref(0, 9), ref(1, 1), ref(2, 1))},
		{[][]api.Ref{{ref(math.MaxInt, 0)}, {ref(math.MinInt, 0)}, {ref(0, math.MaxInt), ref(0, math.MinInt)}}, refs(ref(math.MinInt, 0), ref(0, math.MinInt), ref(0, math.MaxInt), ref(math.MaxInt, 0))},
	} {
		if got := graph.Refs(c.rows...); !slices.Equal(got, c.want) {
			t.Errorf("Refs(%v): %v, not %v", c.rows, got, c.want)
		}
	}
	if got := graph.Refs(); len(got) != 0 {
		t.Errorf("Refs of nothing: %v", got)
	}
}

// P6.1: draws, held against rows that are put together one by one.
func TestRefsDrawn(t *testing.T) {
	d := newDice(61)
	for range 2000 {
		var rows [][]api.Ref
		for range d.Intn(5) {
			rows = append(rows, d.some(8))
		}
		if got, want := graph.Refs(rows...), rising(slices.Concat(rows...)); !slices.Equal(got, want) {
			t.Fatalf("Refs(%v): %v, not %v", rows, got, want)
		}
	}
}

// P6.2, P6.3, P6.4: of two with one Ref the first one is the node, whatever it is.
func TestFirstOfTwo(t *testing.T) {
	a, b, c := ref(0, 1), ref(1, 1), ref(2, 1)
	l := []api.Inst{inst(b, 1), inst(a, 2, b), inst(a, 0), inst(b, 9, a), inst(a, 3, c)}
	falls(t, "Deps and Seq of the first", l, refs(b), refs(a))
	plans(t, "Deps and Seq of the first", l, nil, refs(b, a), nil)
	plans(t, "the first isn't Done", []api.Inst{with(inst(a, 1), api.Taken), inst(a, 1), inst(b, 1, a)}, nil, nil, refs(a))
	plans(t, "the second isn't Done", []api.Inst{inst(a, 1), with(inst(a, 1, c), api.Taken), inst(b, 1, a)}, nil, refs(a, b), nil)
}

// P6.2: what stands in the Deps is needed, and what that needs, and so on; none needs itself by having itself in its Deps; what is no node needs nothing.
func TestNeeds(t *testing.T) {
	a, b, c, d := ref(0, 1), ref(0, 2), ref(1, 1), ref(2, 5)
	falls(t, "a long way", []api.Inst{inst(a, 1, b), inst(b, 2, c), inst(c, 3, d), inst(d, 4)}, refs(d), refs(c), refs(b), refs(a))
	falls(t, "itself", []api.Inst{inst(a, 2, a), inst(b, 1, b, b)}, refs(b), refs(a))
	falls(t, "the same twice", []api.Inst{inst(a, 1, b, b, a, b), inst(b, 2)}, refs(b), refs(a))
	falls(t, "no node between", []api.Inst{inst(a, 1, b), inst(c, 2, d)}, refs(a), refs(c))
	plans(t, "itself", []api.Inst{inst(a, 2, a), inst(b, 1, b, b)}, nil, refs(b, a), nil)
	plans(t, "the same twice", []api.Inst{inst(a, 1, b, b, a, b), inst(b, 2)}, nil, refs(b, a), nil)
	plans(t, "the same unknown one twice", []api.Inst{inst(a, 1, b, b), inst(c, 1, b)}, nil, nil, refs(b))
}

// P6.3: which nodes are in one component.
func TestComponents(t *testing.T) {
	a, b, c, d := ref(0, 1), ref(0, 2), ref(1, 1), ref(2, 5)
	falls(t, "none", nil)
	falls(t, "none", []api.Inst{})
	falls(t, "one", []api.Inst{inst(a, 0)}, refs(a))
	falls(t, "each the other", []api.Inst{inst(a, 2, b), inst(b, 1, a)}, refs(b, a))
	falls(t, "round about", []api.Inst{inst(a, 3, b), inst(b, 1, c), inst(c, 2, d), inst(d, 4, a)}, refs(b, c, a, d))
	falls(t, "one of the two needs the other", []api.Inst{inst(a, 1, b), inst(b, 1)}, refs(b), refs(a))
	falls(t, "two rounds with one in both", []api.Inst{inst(a, 5, b), inst(b, 4, a, c), inst(c, 3, b), inst(d, 2, c)}, refs(c, b, a), refs(d))
	falls(t, "two rounds one behind the other", []api.Inst{inst(a, 1, b), inst(b, 2, a, c), inst(c, 3, d), inst(d, 4, c)}, refs(c, d), refs(a, b))
	falls(t, "a bridge to a round that was gone through", []api.Inst{inst(a, 1, b), inst(b, 1, a), inst(c, 0, a, d), inst(d, 0, b)}, refs(a, b), refs(d), refs(c))
	for _, status := range []int{api.None, api.Seen, api.Taken, api.Done, -1, 4} {
		falls(t, "whatever the status", []api.Inst{with(inst(a, 2, b), status), with(inst(b, 1, a), status), with(inst(c, 0, d), status)}, refs(c), refs(b, a))
	}
}

// P6.3: a component's members rise by Seq, then by Less, whatever the numbers, and however they came.
func TestMembers(t *testing.T) {
	l := []api.Inst{inst(ref(4, 4), math.MinInt), inst(ref(9, 1), -1), inst(ref(-1, 7), 0), inst(ref(0, 3), 0), inst(ref(0, 9), 0), inst(ref(1, 1), 0), inst(ref(0, 1), 1), inst(ref(0, 0), math.MaxInt)}
	var want []api.Ref
	for i := range l {
		want = append(want, l[i].Ref)
		l[i].Deps = refs(l[(i+3)%len(l)].Ref)
	}
	d := newDice(63)
	for range 50 {
		falls(t, "members", l, want)
		plans(t, "members", l, nil, want, nil)
		d.Shuffle(len(l), func(i, j int) { l[i], l[j] = l[j], l[i] })
	}
}

// P6.3: of those that may come next the one with the lesser first member, by Seq, then by Less; what comes free goes ahead of what was free before, if it is less.
func TestNextOne(t *testing.T) {
	a, b, c, d, e := ref(0, 1), ref(0, 2), ref(1, 1), ref(2, 5), ref(3, 1)
	falls(t, "Seq", []api.Inst{inst(a, 3), inst(b, 1), inst(c, 2)}, refs(b), refs(c), refs(a))
	falls(t, "Less", []api.Inst{inst(c, 1), inst(b, 1), inst(a, 1)}, refs(a), refs(b), refs(c))
	falls(t, "Lead ahead of Index", []api.Inst{inst(ref(1, 1), 1), inst(ref(0, 2), 1)}, refs(ref(0, 2)), refs(ref(1, 1)))
	falls(t, "it comes free", []api.Inst{inst(a, 1, b), inst(b, 2), inst(c, 3)}, refs(b), refs(a), refs(c))
	falls(t, "it comes free too late", []api.Inst{inst(a, 1, b), inst(b, 4), inst(c, 3)}, refs(c), refs(b), refs(a))
	falls(t, "it waits for two", []api.Inst{inst(a, 1, b, d), inst(b, 2), inst(c, 3), inst(d, 4), inst(e, 5)}, refs(b), refs(c), refs(d), refs(a), refs(e))
	falls(t, "the first member counts", []api.Inst{inst(a, 1, b), inst(b, 9, a), inst(c, 2), inst(d, 3, e), inst(e, 1, d)}, refs(a, b), refs(e, d), refs(c))
	falls(t, "it is free by a component of its own", []api.Inst{inst(a, 7, b), inst(b, 6, a), inst(c, 1, a, b), inst(d, 2, b), inst(e, 8)}, refs(b, a), refs(c), refs(d), refs(e))
}

// P6.3: each way in which three nodes can have one another in their Deps, with each order of their Seqs, ties among them.
func TestComponentsOfThree(t *testing.T) {
	three := refs(ref(0, 1), ref(0, 2), ref(1, 1))
	for deps := range 512 {
		for seqs := range 27 {
			var l []api.Inst
			for i, s := 0, seqs; i < 3; i, s = i+1, s/3 {
				x := inst(three[i], s%3)
				for j, r := range three {
					if deps>>(3*i+j)&1 == 1 {
						x.Deps = append(x.Deps, r)
					}
				}
				l = append(l, x)
			}
			falls(t, "three", l, modelOf(l, nil).components()...)
		}
	}
}

// P6.2, P6.3: draws, held against the model.
func TestComponentsDrawn(t *testing.T) {
	d := newDice(64)
	for i := range 6000 {
		l := d.insts(12, i%5)
		if got, want := graph.Components(l), modelOf(l, nil).components(); !slices.EqualFunc(got, want, slices.Equal) {
			t.Fatalf("draw %d, %v: %v, not %v", i, l, got, want)
		}
	}
}
