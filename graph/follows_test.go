package graph_test

import (
	"runtime/debug"
	"slices"
	"testing"

	"lamella/api"
	"lamella/graph"
)

// P6.5: what stands in an order stands behind all that it needs and that doesn't need it.
func TestBehindItsNeeds(t *testing.T) {
	d := newDice(67)
	held := 0
	for i := range 3000 {
		l, done := d.insts(14, 1+i%4), d.some(i%5)
		order, _ := graph.Plan(l, done)
		m := modelOf(l, done)
		for at, r := range order {
			for n := range m.needs[r] {
				if slices.Contains(done, n) || m.needs[n][r] {
					continue
				}
				held++
				if !slices.Contains(order[:at], n) {
					t.Fatalf("draw %d: %v needs %v: %v", i, r, n, order)
				}
			}
		}
	}
	if held < 1000 {
		t.Errorf("only %d needs in the draws", held)
	}
}

// history is all that is planned by one who hears of the world bit by bit, and does what is planned each time.
func history(t *testing.T, d dice, world []api.Inst) []api.Ref {
	t.Helper()
	var done []api.Ref
	for range 4 {
		order, _ := graph.Plan(d.part(world), done)
		done = append(done, order...)
	}
	order, wants := graph.Plan(world, done)
	if done = append(done, order...); len(done) != len(world) || len(wants) != 0 {
		t.Fatalf("all Done, and yet %v of %d, wants %v", done, len(world), wants)
	}
	return done
}

// P6.6: two nodes of which one needs the other stand in the same order, whatever was known when they were planned.
func TestSameOrder(t *testing.T) {
	d := newDice(68)
	for i := range 600 {
		world := d.world(12, 1+i%3)
		m := modelOf(world, nil)
		a, b := history(t, d, world), history(t, d, world)
		for _, x := range m.refs {
			for y := range m.needs[x] {
				if slices.Index(a, x) < slices.Index(a, y) != (slices.Index(b, x) < slices.Index(b, y)) {
					t.Fatalf("draw %d: %v needs %v: %v, and %v", i, x, y, a, b)
				}
			}
		}
	}
}

// P6.6: what was planned ahead and is in done, component by component, changes nothing of the rest.
func TestRestStays(t *testing.T) {
	d := newDice(69)
	for i := range 1500 {
		l := d.insts(14, 1+i%4)
		order, wants := graph.Plan(l, nil)
		at := 0
		for _, c := range graph.Components(l) {
			if at < len(order) && c[0] == order[at] {
				plans(t, "the rest", l, order[:at], order[at:], wants)
				at += len(c)
			}
		}
		if at != len(order) {
			t.Fatalf("draw %d: %v isn't as the components are", i, order)
		}
		plans(t, "no rest", l, order, nil, wants)
	}
}

// shallow runs f where no stack can grow long.
func shallow(f func()) {
	defer debug.SetMaxStack(debug.SetMaxStack(1 << 17))
	over := make(chan struct{})
	go func() {
		defer close(over)
		f()
	}()
	<-over
}

const many = 150000

// row is many nodes, each of which needs the one ahead, told forward or backward.
func row(step int) []api.Inst {
	l := make([]api.Inst, many)
	for i := range l {
		l[i] = inst(ref(0, i), many-i)
		if i > 0 {
			l[i].Deps = refs(ref(0, i-1))
		}
	}
	if step < 0 {
		slices.Reverse(l)
	}
	return l
}

// P6.7: long rows of needs, each node needing the one ahead.
func TestLongRow(t *testing.T) {
	for _, step := range []int{1, -1} {
		l := row(step)
		shallow(func() {
			if order, wants := graph.Plan(l, nil); len(order) != many || order[0] != ref(0, 0) || order[many-1] != ref(0, many-1) || len(wants) != 0 {
				t.Errorf("step %d: %d planned, %d wanted", step, len(order), len(wants))
			}
			if rows := graph.Components(l); len(rows) != many || rows[many/2][0] != ref(0, many/2) {
				t.Errorf("step %d: %d components", step, len(rows))
			}
			first := slices.IndexFunc(l, func(x api.Inst) bool { return x.Ref.Index == 0 })
			l[first].Deps = refs(ref(1, 1))
			if order, wants := graph.Plan(l, nil); len(order) != 0 || !slices.Equal(wants, refs(ref(1, 1))) {
				t.Errorf("step %d, not all known: %d planned, %d wanted", step, len(order), len(wants))
			}
		})
	}
}

// P6.7: a round of many.
func TestLongRound(t *testing.T) {
	l := row(1)
	l[0].Deps = refs(ref(0, many-1))
	shallow(func() {
		rows := graph.Components(l)
		if len(rows) != 1 || len(rows[0]) != many || rows[0][0] != ref(0, many-1) || rows[0][many-1] != ref(0, 0) {
			t.Errorf("%d components", len(rows))
		}
		if order, wants := graph.Plan(l, refs(ref(0, 0))); len(order) != many-1 || order[0] != ref(0, 1) || len(wants) != 0 {
			t.Errorf("%d planned, %d wanted", len(order), len(wants))
		}
	})
}

// P6.7: one that needs many, many that need one, many rows, a long done.
func TestWide(t *testing.T) {
	l := make([]api.Inst, many)
	all := make([]api.Ref, many)
	rows := make([][]api.Ref, many)
	for i := range l {
		all[i] = ref(0, many-i)
		rows[i] = refs(all[i], all[i/2])
		l[i] = inst(all[i], i, ref(9, 9))
	}
	l = append(l, inst(ref(9, 9), -1), inst(ref(8, 8), -2, all...))
	shallow(func() {
		order, wants := graph.Plan(l, nil)
		if len(order) != many+2 || order[0] != ref(9, 9) || order[many+1] != ref(8, 8) || len(wants) != 0 {
			t.Errorf("%d planned, %d wanted", len(order), len(wants))
		}
		if order, wants = graph.Plan(l, all); !slices.Equal(order, refs(ref(8, 8), ref(9, 9))) || len(wants) != 0 {
			t.Errorf("%d planned, %d wanted", len(order), len(wants))
		}
		if order, wants = graph.Plan(l[many+1:], nil); len(order) != 0 || len(wants) != many {
			t.Errorf("%d planned, %d wanted", len(order), len(wants))
		}
		if got := graph.Refs(rows...); len(got) != many || got[0] != ref(0, 1) || got[many-1] != ref(0, many) {
			t.Errorf("%d Refs of many rows", len(got))
		}
	})
}

// Rule 4: what is handed in is neither changed nor kept, its spare room included; an answer is new memory.
func TestMemory(t *testing.T) {
	roomy := func(l ...api.Ref) []api.Ref {
		room := append(slices.Clone(l), ref(77, 77), ref(78, 78))
		return room[:len(l)]
	}
	a, b, c := ref(0, 1), ref(0, 2), ref(1, 1)
	given := roomy(c, a, b, a)
	got := graph.Refs(given)
	got = append(got[:0], ref(5, 5), ref(5, 6), ref(5, 7), ref(5, 8))
	if !slices.Equal(given[:5], refs(c, a, b, a, ref(77, 77))) {
		t.Errorf("Refs shares its row: %v, answer %v", given[:5], got)
	}
	one := roomy(a)
	if got = graph.Refs(one, nil); len(got) == 1 {
		got[0] = c
		got = append(got, c)
	}
	if !slices.Equal(one[:2], refs(a, ref(77, 77))) {
		t.Errorf("Refs shares a row alone: %v, answer %v", one[:2], got)
	}

	l := []api.Inst{inst(a, 3, roomy(c, b, c)...), inst(b, 2, roomy(a)...), inst(c, 1, roomy(b)...), inst(ref(2, 2), 0), inst(a, 9)}
	done := roomy(ref(2, 2), ref(2, 2))
	for range 2 {
		rows := graph.Components(l)
		if !slices.EqualFunc(rows, [][]api.Ref{{ref(2, 2)}, {c, b, a}}, slices.Equal) {
			t.Fatalf("components: %v", rows)
		}
		rows[0] = append(rows[0], c, c, c, c)
		if !slices.Equal(rows[1], refs(c, b, a)) {
			t.Errorf("rows share memory: %v", rows[1])
		}
		clear(rows[1])
		order, _ := graph.Plan(l, done)
		if !slices.Equal(order, refs(c, b, a)) {
			t.Fatalf("order: %v", order)
		}
		clear(order)
		if _, wants := graph.Plan(l[:2], done); !slices.Equal(wants, refs(c)) {
			t.Fatalf("wants: %v", wants)
		} else {
			clear(wants)
		}
	}
	if !slices.Equal(l[0].Deps[:4], refs(c, b, c, ref(77, 77))) || l[1].Deps[0] != a || !slices.Equal(done[:3], refs(ref(2, 2), ref(2, 2), ref(77, 77))) || l[4].Seq != 9 {
		t.Errorf("what was handed in has changed: %v, %v", l, done)
	}
}
