package engine_test

import (
	"math"
	"slices"
	"testing"

	"lamella/api"
	"lamella/blocks"
	"lamella/engine"
)

// P9.1: an engine that has executed nothing, on what the store has.
func TestNew(t *testing.T) {
	for _, s := range []*blocks.Store{
		begun(t, 0, 1), begun(t, 0, 256), begun(t, 255, 256),
		begun(t, 2, 6, write(1, 7, 2, "a", "b"), write(3, api.MaxSeq, 5, "c"), command(api.OpTrim, 2, 1, 3, 4)),
	} {
		was := s.Clone()
		x := starts(t, s)
		has(t, "a new one", x, was)
		advances(t, "a new one", x, nil, nil)
		if !blocks.Same(s, was) {
			t.Error("New has changed its store")
		}
	}
}

// P9.1: none on a store that is nil or frozen.
func TestNewOnNothing(t *testing.T) {
	for _, s := range []*blocks.Store{nil, begun(t, 0, 4, freeze()), begun(t, 2, 6, write(1, 7, 2, "a"), freeze())} {
		if x, e := engine.New(s); x != nil || e != api.ErrArg {
			t.Errorf("New: %v, error %d", x != nil, e)
		}
	}
}

// P9.1: what was frozen begins anew as a part of it that isn't.
func TestNewOnAPart(t *testing.T) {
	s, e := begun(t, 0, 4, write(1, 7, 2, "a"), freeze()).Part(api.Span{From: 1, To: 3})
	if e != api.OK {
		t.Fatal(e)
	}
	a := inst(ref(0, 1), read(0, 1, 1, 3), 1)
	advances(t, "a part", starts(t, s), insts(a), rans(done(a, "", "a")))
}

// P9.1, rule 4: the engine and the store that it began on go their own ways.
func TestNewCopies(t *testing.T) {
	s := begun(t, 0, 2, write(1, 1, 0, "a", "b"))
	x := starts(t, s)
	s.Apply(write(2, 1, 0, "spoilt"))
	s.Apply(freeze())
	has(t, "behind a change of the store", x, begun(t, 0, 2, write(1, 1, 0, "a", "b")))
	w := inst(ref(0, 1), write(1, 2, 1, "c"), 1)
	was := s.Clone()
	advances(t, "behind a change of the store", x, insts(w), rans(done(w)))
	if !blocks.Same(s, was) {
		t.Error("the engine has changed the store that it began on")
	}
}

// P9.3: Store is a copy.
func TestStoreCopies(t *testing.T) {
	x := starts(t, begun(t, 0, 2, write(1, 1, 0, "a", "b")))
	s := x.Store()
	s.Apply(write(2, 1, 0, "spoilt"))
	s.Apply(freeze())
	has(t, "behind a change of its store", x, begun(t, 0, 2, write(1, 1, 0, "a", "b")))
	s = x.Store()
	w := inst(ref(0, 1), write(1, 2, 1, "c"), 1)
	x.Advance(insts(w))
	if !blocks.Same(s, begun(t, 0, 2, write(1, 1, 0, "a", "b"))) {
		t.Error("a store that was told goes on with the engine")
	}
}

// P9.3: what was told, in order, over more than one Advance.
func TestLog(t *testing.T) {
	a := inst(ref(2, 1), write(0, 1, 0, "a", "b"), 1)
	b := inst(ref(0, 1), read(1, 1, 0, 2), 2, a.Ref)
	c := inst(ref(1, 9), write(0, 2, 4, "out"), 3, a.Ref)
	f := inst(ref(0, 2), freeze(), 4, a.Ref, b.Ref, c.Ref)
	g := inst(ref(0, 3), read(1, 2, 0, 1), 5, b.Ref, f.Ref)
	x := starts(t, begun(t, 0, 4))
	log := rans(done(a), done(b, "a", "b"), undone(c), done(f), undone(g))
	s := begun(t, 0, 4)
	has(t, "at first", x, s)
	advances(t, "one", x, insts(a), log[:1])
	s.Apply(a.Cmd)
	has(t, "one", x, s, log[:1]...)
	advances(t, "two more", x, insts(c, b, a), log[1:3])
	has(t, "two more", x, s, log[:3]...)
	advances(t, "none", x, insts(c, b, a), nil)
	has(t, "none", x, s, log[:3]...)
	advances(t, "two more, one of them a freeze", x, insts(g, f), log[3:])
	s.Apply(freeze())
	has(t, "two more, one of them a freeze", x, s, log...)
}

// P9.3: a clone is the same, and each goes its own way.
func TestClone(t *testing.T) {
	a := inst(ref(0, 1), write(0, 1, 0, "a"), 1)
	b := inst(ref(0, 2), write(0, 2, 0, "b"), 2, a.Ref)
	c := inst(ref(1, 1), write(1, 1, 0, "c"), 3, a.Ref, b.Ref)
	f := inst(ref(1, 2), freeze(), 4, a.Ref)
	x := starts(t, begun(t, 0, 1))
	fresh := x.Clone()
	x.Advance(insts(a))
	y := x.Clone()
	has(t, "a clone of a new one", fresh, begun(t, 0, 1))
	has(t, "the clone", y, begun(t, 0, 1, a.Cmd), done(a))
	advances(t, "the clone", y, insts(a, f), rans(done(f)))
	advances(t, "the engine", x, insts(a, b), rans(done(b)))
	advances(t, "the engine", x, insts(a, b, c), rans(done(c)))
	has(t, "the engine", x, begun(t, 0, 1, a.Cmd, b.Cmd, c.Cmd), done(a), done(b), done(c))
	has(t, "the clone", y, begun(t, 0, 1, a.Cmd, freeze()), done(a), done(f))
	has(t, "a clone of a frozen one", y.Clone(), begun(t, 0, 1, a.Cmd, freeze()), done(a), done(f))
	advances(t, "the clone knows what is done", y, insts(a, b, f), rans(undone(b)))
	advances(t, "the clone of a new one", fresh, insts(a), rans(done(a)))
}

// P9.3: clones of one engine, of which each goes on where the other one does, have lists of their own.
func TestClonesGoOnApart(t *testing.T) {
	x := starts(t, begun(t, 0, 8))
	var log []api.Ran
	for i := range 20 {
		a := inst(ref(0, i+1), write(0, i+1, 0, "x"), i)
		b := inst(ref(1, i+1), write(1, i+1, 0, "y"), i)
		y := x.Clone()
		y.Advance(insts(b))
		x.Advance(insts(a))
		log = append(log, done(a))
		has(t, "the clone", y, y.Store(), append(slices.Clone(log[:i]), done(b))...)
	}
	has(t, "the engine", x, x.Store(), log...)
}

// P9.3: of a nil Engine.
func TestNilEngine(t *testing.T) {
	var x *engine.Engine
	a := inst(ref(0, 1), write(0, 1, 0, "a"), 1, ref(5, 5))
	advances(t, "nil", x, nil, nil)
	advances(t, "nil", x, insts(a, inst(ref(0, 2), freeze(), 1)), nil)
	if x.Store() != nil || x.Clone() != nil || x.Frozen() {
		t.Errorf("Store %v, Clone %v, frozen %v", x.Store() != nil, x.Clone() != nil, x.Frozen())
	}
	if len(x.Done()) != 0 || len(x.Log()) != 0 {
		t.Errorf("Done %v, Log %v", x.Done(), x.Log())
	}
	for _, k := range []int{0, 1, -1, math.MinInt, math.MaxInt} {
		if l := x.Since(k); len(l) != 0 {
			t.Errorf("since %d there is %v", k, l)
		}
	}
}

// spoil changes all lists of what was told.
func spoil(l []api.Ran) {
	for i := range l {
		for k := range l[i].Cmd.Data {
			l[i].Cmd.Data[k] = "spoilt"
		}
		for k := range l[i].Reply.Data {
			l[i].Reply.Data[k] = "spoilt"
		}
		l[i].Ref = ref(9, 9)
	}
}

// Rule 4: what is handed in is neither changed nor kept, its spare room included; an answer is new memory.
func TestMemory(t *testing.T) {
	room := func(l ...string) []string { return append(slices.Clone(l), "spare")[:len(l)] }
	deps := append(refs(ref(0, 1)), ref(7, 7))[:1]
	a := func() api.Inst { return inst(ref(0, 1), write(0, 1, 0, "a", "b"), 1) }
	b := func() api.Inst { return inst(ref(0, 2), read(0, 2, 0, 2), 2, ref(0, 1)) }
	given := insts(b(), a(), as(api.Seen, b()))
	given[0].Deps = deps
	given[1].Cmd.Data = room("a", "b")
	x := starts(t, begun(t, 0, 2))
	ran, wants := x.Advance(given[:2])
	if !slices.Equal(given[1].Cmd.Data[:3], []string{"a", "b", "spare"}) || !slices.Equal(deps[:2], refs(ref(0, 1), ref(7, 7))) ||
		given[0].Ref != ref(0, 2) || given[1].Ref != ref(0, 1) || given[2].Status != api.Seen {
		t.Errorf("what was handed in has changed: %v", given)
	}
	if len(ran) != 2 || len(wants) != 0 {
		t.Fatalf("ran %v, wants %v", ran, wants)
	}
	given[1].Cmd.Data[0] = "spoilt"
	if ran[0].Cmd.Data[0] != "a" {
		t.Error("what is told shares what was handed in")
	}
	y := x.Clone()
	spoil(ran)
	spoil(x.Log())
	spoil(x.Since(1))
	clear(x.Done())
	spoil(y.Log())
	for _, e := range []*engine.Engine{x, y} {
		has(t, "spoilt", e, begun(t, 0, 2, a().Cmd), done(a()), done(b(), "a", "b"))
		advances(t, "spoilt", e, insts(a(), b()), nil)
	}
}

// Rule 4: nor are the Refs that were told as wanted kept.
func TestMemoryOfWants(t *testing.T) {
	x := starts(t, begun(t, 0, 2))
	l := insts(inst(ref(0, 2), read(0, 2, 0, 2), 2, ref(1, 1), ref(0, 1)))
	for range 2 {
		_, wants := x.Advance(l)
		if !slices.Equal(wants, refs(ref(0, 1), ref(1, 1))) {
			t.Fatalf("wants %v", wants)
		}
		clear(wants)
	}
	if !slices.Equal(l[0].Deps, refs(ref(1, 1), ref(0, 1))) {
		t.Errorf("what was handed in has changed: %v", l)
	}
}
