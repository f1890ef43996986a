package insts_test

import (
	"maps"
	"math"
	"slices"
	"testing"

	"lamella/api"
	"lamella/insts"
)

// P7.3: a new one has nothing.
func TestNew(t *testing.T) {
	table := insts.New()
	if table == nil {
		t.Fatal("there is none")
	}
	has(t, "a new one", table)
	if x, in := table.Get(ref(0, 1)); in || !alike(x, api.Inst{}) {
		t.Errorf("Get: %v, %v", x, in)
	}
	other := insts.New()
	puts(t, table, rich())
	has(t, "another one", other)
}

// P7.3: one for each Ref, the one that was put last, whatever its status was.
func TestPutAndGet(t *testing.T) {
	table := insts.New()
	a, b, c := seen(ref(1, 2), write(1, 1, 0, "a"), 1), seen(ref(0, 9), read(0, 0, 1), 2, ref(1, 2)), api.Inst{Ref: ref(1, 1), Ballot: ballot(3, 3)}
	puts(t, table, a)
	has(t, "one", table, a)
	puts(t, table, b, c)
	has(t, "three", table, b, c, a)
	done := changed(a, func(x *api.Inst) {
		x.Status, x.Ballot, x.Seq, x.Deps, x.Cmd = api.Done, ballot(2, 2), 7, refs(ref(6, 6)), api.Cmd{}
	})
	puts(t, table, done)
	has(t, "one of the same Ref", table, b, c, done)
	puts(t, table, a, a)
	has(t, "back again", table, b, c, a)
	puts(t, table, api.Inst{Ref: ref(1, 2)})
	has(t, "back to nothing", table, b, c, api.Inst{Ref: ref(1, 2)})
	for _, r := range refs(ref(0, 1), ref(2, 1), ref(9, 0), ref(1, 3), ref(-1, 1), ref(0, 0), ref(math.MinInt, math.MaxInt)) {
		if x, in := table.Get(r); in || !alike(x, api.Inst{}) {
			t.Errorf("Get of %v: %v, %v", r, x, in)
		}
	}
}

// P7.3: ErrArg, if it may not be.
func TestPutOfWhatMayNotBe(t *testing.T) {
	table := insts.New()
	puts(t, table, rich())
	refuses(t, "zero", table, api.Inst{}, api.ErrArg)
	for what, change := range map[string]func(*api.Inst){
		"Lead":       func(x *api.Inst) { x.Ref.Lead = 7 },
		"Index":      func(x *api.Inst) { x.Ref.Index = 1<<30 + 1 },
		"Vote":       func(x *api.Inst) { x.Vote = ballot(5, 4) },
		"Status":     func(x *api.Inst) { x.Status = 4 },
		"None":       func(x *api.Inst) { x.Status = api.None },
		"Cmd":        func(x *api.Inst) { x.Cmd.To++ },
		"Seq":        func(x *api.Inst) { x.Seq = 1<<40 + 1 },
		"Deps":       func(x *api.Inst) { slices.Reverse(x.Deps) },
		"many Deps":  func(x *api.Inst) { x.Deps = rows(4097) },
		"wrong Deps": func(x *api.Inst) { x.Deps[0].Index = 0 },
	} {
		refuses(t, what, table, changed(rich(), change), api.ErrArg)
	}
	has(t, "behind all that", table, rich())
}

// filled is a table of n ones, that there is a row of, too.
func filled(t *testing.T, n int) (*insts.Table, []api.Inst) {
	t.Helper()
	table := insts.New()
	var l []api.Inst
	for i, r := range rows(n) {
		l = append(l, seen(r, command(api.OpTrim, i%4, 1+i, i%256, i%256+1), i))
	}
	puts(t, table, l...)
	return table, l
}

// P7.3: ErrBig, if there are MaxList ones, and none of its Ref; ErrArg goes ahead of it.
func TestPutOfTooMany(t *testing.T) {
	table, l := filled(t, 4095)
	x := seen(ref(6, 1<<30), api.Cmd{}, 1)
	puts(t, table, x)
	l = append(l, x)
	has(t, "full", table, l...)
	refuses(t, "another one", table, seen(ref(0, 1<<20), api.Cmd{}, 1), api.ErrBig)
	refuses(t, "another one of which nothing is known", table, api.Inst{Ref: ref(6, 1<<30-1)}, api.ErrBig)
	refuses(t, "one that may not be", table, seen(ref(7, 1), api.Cmd{}, 1), api.ErrArg)
	for _, at := range []int{0, 2000, 4095} {
		l[at] = changed(l[at], func(x *api.Inst) { x.Status, x.Seq = api.Done, 77 })
		puts(t, table, l[at])
	}
	has(t, "full, with some put again", table, l...)
	other := table.Clone()
	refuses(t, "another one, to a clone", other, seen(ref(0, 1<<20), api.Cmd{}, 1), api.ErrBig)
	orders(t, "full", table, api.Cmd{Op: api.OpFreeze}, ref(0, 1), 4095, rows(4095)[1:]...)
}

// P7.3: one more than the greatest Index of the Lead's, whether those below are there or not, and however they came.
func TestNext(t *testing.T) {
	table := insts.New()
	next := func(lead, want int) {
		t.Helper()
		if got := table.Next(lead); got != want {
			t.Errorf("Next of %d is %d, not %d", lead, got, want)
		}
	}
	for _, lead := range []int{0, 6, 7, -1, math.MinInt, math.MaxInt} {
		next(lead, 1)
	}
	puts(t, table, api.Inst{Ref: ref(1, 5)})
	next(1, 6)
	next(0, 1)
	next(2, 1)
	puts(t, table, api.Inst{Ref: ref(1, 2)}, api.Inst{Ref: ref(0, 1)})
	next(1, 6)
	next(0, 2)
	puts(t, table, api.Inst{Ref: ref(6, 1<<30)}, api.Inst{Ref: ref(6, 1)}, api.Inst{Ref: ref(1, 6)})
	next(6, 1<<30+1)
	next(1, 7)
}

// P7.3: the loop rises by Refs, however they came; it may be left at any one, and gone through again.
func TestEach(t *testing.T) {
	want := refs(ref(0, 1), ref(0, 2), ref(0, 1<<30), ref(1, 1), ref(1, 300), ref(2, 2), ref(6, 1))
	d := newDice()
	for range 30 {
		table := insts.New()
		for _, i := range d.Perm(len(want)) {
			puts(t, table, api.Inst{Ref: want[i]})
		}
		loop := table.Each()
		for most := range len(want) + 1 {
			var got []api.Ref
			for x := range loop {
				got = append(got, x.Ref)
				if len(got) >= most {
					break
				}
			}
			if !slices.Equal(got, want[:max(most, 1)]) {
				t.Fatalf("left at %d: %v", most, got)
			}
		}
	}
}

// P7.3: it goes over those that there were when it began, as they were.
func TestEachWhilePutting(t *testing.T) {
	table := insts.New()
	a, b := seen(ref(0, 5), read(1, 0, 1), 1), seen(ref(2, 5), read(2, 0, 1), 2)
	loop := table.Each()
	puts(t, table, a, b)
	later := changed(b, func(x *api.Inst) { x.Status, x.Seq, x.Deps = api.Done, 9, refs(ref(0, 5)) })
	var got []api.Inst
	for x := range loop {
		got = append(got, x)
		puts(t, table, later, api.Inst{Ref: ref(0, 1)}, api.Inst{Ref: ref(1, 1)}, api.Inst{Ref: ref(6, 1)})
	}
	if !slices.EqualFunc(got, []api.Inst{a, b}, alike) {
		t.Errorf("a loop with puts within went over %v", got)
	}
	has(t, "behind it", table, api.Inst{Ref: ref(0, 1)}, a, api.Inst{Ref: ref(1, 1)}, later, api.Inst{Ref: ref(6, 1)})
	inner := 0
	for range table.Each() {
		for range table.Each() {
			inner++
		}
	}
	if inner != 25 {
		t.Errorf("a loop within a loop: %d", inner)
	}
}

// P7.3: a clone has the same, and goes its own way.
func TestClone(t *testing.T) {
	table := insts.New()
	other := table.Clone()
	puts(t, other, rich())
	has(t, "the empty one", table)
	a, b := seen(ref(0, 1), write(1, 1, 0, "a"), 1), seen(ref(1, 1), read(2, 0, 1), 2, ref(0, 1))
	puts(t, table, a, b)
	other = table.Clone()
	has(t, "the clone", other, a, b)
	done := changed(a, func(x *api.Inst) { x.Status = api.Done })
	puts(t, table, done)
	puts(t, other, rich())
	has(t, "the table", table, done, b)
	has(t, "the clone, later", other, a, b, rich())
}

// P7.3: draws, held against a map.
func TestTableDrawn(t *testing.T) {
	d := newDice()
	for range 500 {
		table, model := d.table(t, 30)
		has(t, "a draw", table, rising(model)...)
		other, was := table.Clone(), maps.Clone(model)
		for range 5 {
			x := d.inst()
			puts(t, table, x)
			model[x.Ref] = x
		}
		has(t, "the clone of a draw", other, rising(was)...)
		has(t, "the draw, later", table, rising(model)...)
	}
}

// spoil writes over all that an instance's lists have, their spare room too.
func spoil(x api.Inst) {
	deps, data := x.Deps[:cap(x.Deps)], x.Cmd.Data[:cap(x.Cmd.Data)]
	for i := range deps {
		deps[i] = ref(-5, -5)
	}
	for i := range data {
		data[i] = "spoilt"
	}
}

// P7.3: what is handed in shares nothing with the table.
func TestMemoryOfPut(t *testing.T) {
	table := insts.New()
	x := rich()
	data, sameData := roomy(x.Cmd.Data, "c", "d")
	deps, sameDeps := roomy(x.Deps, ref(1, 1), ref(0, 0))
	x.Cmd.Data, x.Deps = data, deps
	puts(t, table, x)
	table.Clone()
	all(table)
	if !sameData() || !sameDeps() {
		t.Error("what was put has changed")
	}
	spoil(x)
	has(t, "behind a change of what was put", table, rich())
}

// P7.3: what is handed out shares nothing with the table, nor one answer with another.
func TestMemoryOfAnswers(t *testing.T) {
	table := insts.New()
	puts(t, table, rich())
	other := table.Clone()
	kept := all(table)
	x, _ := table.Get(rich().Ref)
	spoil(x)
	has(t, "behind a change of what Get told", table, rich())
	for x := range table.Each() {
		spoil(x)
	}
	has(t, "behind a change of what Each told", table, rich())
	for x := range other.Each() {
		spoil(x)
	}
	x, _ = other.Get(rich().Ref)
	spoil(x)
	has(t, "the clone", other, rich())
	_, deps := table.Order(api.Cmd{Op: api.OpFreeze}, ref(0, 1))
	deps[0] = ref(-5, -5)
	orders(t, "behind a change of what Order told", table, api.Cmd{Op: api.OpFreeze}, ref(0, 1), 1<<20+1, rich().Ref)
	if !slices.EqualFunc(kept, []api.Inst{rich()}, alike) {
		t.Errorf("an answer has changed with another one: %v", kept)
	}
}

// P7.3: a loop that goes on behind a change of what it told.
func TestMemoryWithinLoops(t *testing.T) {
	table := insts.New()
	one, two := rich(), changed(rich(), func(x *api.Inst) { x.Ref.Lead = 3 })
	puts(t, table, one, two)
	var got []api.Inst
	for x := range table.Each() {
		got = append(got, changed(x, func(*api.Inst) {}))
		spoil(x)
		y, _ := table.Get(two.Ref)
		spoil(y)
	}
	if !slices.EqualFunc(got, []api.Inst{one, two}, alike) {
		t.Errorf("it went over %v", got)
	}
}

// P7.5
func TestNilTable(t *testing.T) {
	var table *insts.Table
	for _, x := range []api.Inst{rich(), {}, {Ref: ref(0, 1)}, seen(ref(9, 1), api.Cmd{}, 1)} {
		if e := table.Put(x); e != api.ErrNone {
			t.Errorf("Put: error %d", e)
		}
	}
	has(t, "nil", table)
	if x, in := table.Get(rich().Ref); in || !alike(x, api.Inst{}) {
		t.Errorf("Get: %v, %v", x, in)
	}
	orders(t, "nil", table, api.Cmd{Op: api.OpFreeze}, ref(0, 1), 1)
	if table.Clone() != nil {
		t.Error("there is a clone")
	}
}
