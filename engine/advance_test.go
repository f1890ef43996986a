package engine_test

import (
	"math"
	"slices"
	"testing"

	"lamella/api"
	"lamella/blocks"
	"lamella/graph"
)

// Example 1 of the chapter.
func TestExample(t *testing.T) {
	a := inst(ref(0, 1), write(0, 1, 1, "a"), 1)
	b := inst(ref(1, 1), write(1, 1, 1, "b"), 2, a.Ref)
	x, y := starts(t, begun(t, 0, 4)), starts(t, begun(t, 0, 4))
	advances(t, "a first", x, insts(a), rans(done(a)))
	advances(t, "then b", x, insts(a, b), rans(done(b)))
	advances(t, "b first", y, insts(b), nil, a.Ref)
	advances(t, "then a", y, insts(b, a), rans(done(a), done(b)))
	s := begun(t, 0, 4, a.Cmd, b.Cmd)
	has(t, "a first", x, s, done(a), done(b))
	has(t, "b first", y, s, done(a), done(b))
}

// P9.2: nothing at all.
func TestAdvanceOfNothing(t *testing.T) {
	x := starts(t, begun(t, 0, 4))
	advances(t, "nil", x, nil, nil)
	advances(t, "empty", x, []api.Inst{}, nil)
	advances(t, "a zero one", x, insts(api.Inst{}), nil)
	has(t, "nothing", x, begun(t, 0, 4))
	advances(t, "a zero one that is decided", x, insts(api.Inst{Status: api.Done}), rans(api.Ran{Reply: api.Reply{Ok: true}}))
	has(t, "a zero one", x, begun(t, 0, 4), api.Ran{Reply: api.Reply{Ok: true}})
}

// P9.2: each command does what the store does with it, and is told with what it replies.
func TestAdvanceOfEachCommand(t *testing.T) {
	x := starts(t, begun(t, 2, 6, write(1, 7, 2, "a")))
	s := begun(t, 2, 6, write(1, 7, 2, "a"))
	var log []api.Ran
	for i, c := range []api.Cmd{
		write(0, 1, 3, "b", "c"), read(0, 2, 2, 6), command(api.OpTrim, 2, 1, 3, 4), read(0, 3, 3, 4), {}, command(api.OpFlush, 3, 9, 2, 6),
		write(1, 7, 2, "again"), write(1, 6, 2, "late", "new"), read(3, 10, 2, 4), freeze(), read(3, 11, 2, 4), write(3, 12, 2, "frozen"), {}, freeze(),
	} {
		a := inst(ref(i%7, 1+i), c, i)
		reply, _ := s.Apply(c)
		ran := api.Ran{Ref: a.Ref, Cmd: c, Reply: reply}
		advances(t, "a command", x, insts(a), rans(ran))
		log = append(log, ran)
		has(t, "a command", x, s, log...)
	}
	if texts := log[8].Reply.Data; !slices.Equal(texts, []string{"a", "new"}) || log[10].Reply.Ok {
		t.Errorf("texts %v, behind a freeze %v", texts, log[10].Reply.Ok)
	}
}

// P9.2: a command that is refused is executed all the same: its reply is not Ok, and what needs it goes on.
func TestAdvanceOfWhatIsRefused(t *testing.T) {
	s := func() *blocks.Store { return begun(t, 2, 6, write(1, 7, 2, "a")) }
	for _, c := range []api.Cmd{
		read(0, 1, 1, 3), read(0, 1, 5, 7), read(0, 1, 0, 2), read(0, 1, 6, 7), write(0, 1, 6, "x"), write(0, 1, 1, "x", "y"), command(api.OpTrim, 0, 1, 1, 3), command(api.OpFlush, 0, 1, 0, 16),
		read(0, 0, 2, 3), read(4, 1, 2, 3), read(-1, 1, 2, 3), read(0, api.MaxSeq+1, 2, 3), read(0, 1, 3, 3), read(0, 1, 4, 3), read(0, 1, math.MinInt, math.MaxInt),
		{Op: 9}, {Op: -1}, {Op: api.OpFreeze, Seq: 1}, {Op: api.OpNone, To: 1}, {Op: api.OpWrite, Seq: 1, From: 2, To: 3}, write(0, 1, 2, "x\x00"),
		{Op: api.OpRead, Seq: 1, From: 2, To: 3, Data: []string{"x"}},
	} {
		a := inst(ref(0, 1), c, 1)
		b := inst(ref(1, 1), read(1, 8, 2, 4), 2, a.Ref)
		x := starts(t, s())
		advances(t, "refused", x, insts(b, a), rans(undone(a), done(b, "a", "")))
		has(t, "refused", x, s(), undone(a), done(b, "a", ""))
		advances(t, "refused, and executed", x, insts(b, a), nil)
	}
}

// P9.2: any Refs, Seqs and Deps.
func TestAdvanceOfAnyRefs(t *testing.T) {
	a := inst(ref(-1, math.MinInt), write(0, 1, 0, "a"), math.MaxInt, ref(-1, math.MinInt))
	b := inst(ref(math.MaxInt, 0), read(1, 1, 0, 1), math.MinInt, a.Ref, a.Ref, ref(math.MaxInt, 0))
	c := inst(ref(0, -5), read(2, 1, 0, 1), 0, ref(math.MaxInt, math.MaxInt))
	x := starts(t, begun(t, 0, 4))
	advances(t, "any Refs", x, insts(c, b, a), rans(done(a), done(b, "a")), ref(math.MaxInt, math.MaxInt))
	has(t, "any Refs", x, begun(t, 0, 4, a.Cmd), done(a), done(b, "a"))
}

// P9.2: what isn't decided isn't executed, and what needs it waits, and wants it.
func TestAdvanceByStatus(t *testing.T) {
	a := inst(ref(0, 1), write(0, 1, 0, "a"), 1)
	b := inst(ref(1, 1), read(1, 1, 0, 1), 2, a.Ref)
	c := inst(ref(2, 1), read(2, 1, 1, 2), 1)
	for _, status := range []int{api.None, api.Seen, api.Taken, -1, 4, math.MaxInt} {
		x := starts(t, begun(t, 0, 4))
		advances(t, "it isn't decided", x, insts(as(status, a)), nil)
		advances(t, "nor what is needed", x, insts(as(status, a), b, c), rans(done(c, "")), a.Ref)
		advances(t, "still", x, insts(as(status, a), b, c), nil, a.Ref)
		advances(t, "what is needed isn't known any more", x, insts(b), nil, a.Ref)
		advances(t, "now it is", x, insts(a, b, c), rans(done(a), done(b, "a")))
		advances(t, "what was executed, and is told as not decided", x, insts(as(status, a), as(status, b)), nil)
		has(t, "all", x, begun(t, 0, 4, a.Cmd), done(c, ""), done(a), done(b, "a"))
	}
}

// P9.2: of two with one Ref the first one is meant, also where it isn't decided.
func TestAdvanceOfOneRefTwice(t *testing.T) {
	a := inst(ref(0, 1), write(0, 1, 0, "a"), 1)
	other := inst(ref(0, 1), write(0, 1, 0, "other"), 2, ref(5, 5))
	r := inst(ref(1, 1), read(1, 1, 0, 1), 3, a.Ref)
	x := starts(t, begun(t, 0, 4))
	advances(t, "the first one isn't decided", x, insts(as(api.Taken, other), a), nil)
	advances(t, "the first one waits", x, insts(other, a), nil, ref(5, 5))
	advances(t, "the first one", x, insts(r, a, other), rans(done(a), done(r, "a")))
	advances(t, "another one of what was executed", x, insts(other, a), nil)
	has(t, "twice", x, begun(t, 0, 4, a.Cmd), done(a), done(r, "a"))
}

// P9.2: what was executed is done, though it isn't told any more, and though it is told with other needs.
func TestAdvanceBehindWhatIsDone(t *testing.T) {
	a := inst(ref(0, 1), write(0, 1, 0, "a"), 1)
	b := inst(ref(1, 1), read(1, 1, 0, 1), 2, a.Ref)
	c := inst(ref(2, 1), read(2, 1, 0, 1), 3, a.Ref, b.Ref)
	x := starts(t, begun(t, 0, 4))
	advances(t, "the first", x, insts(a), rans(done(a)))
	advances(t, "it isn't told any more", x, insts(b), rans(done(b, "a")))
	a.Deps, b.Deps = refs(ref(5, 5)), refs(c.Ref, ref(6, 6))
	advances(t, "with other needs", x, insts(a, b, c), rans(done(c, "a")))
	advances(t, "with other needs, which nobody wants", x, insts(a, b, c), nil)
}

// P9.2: those that need each other go by Seq, then by their Refs, and all at once.
func TestAdvanceRoundAbout(t *testing.T) {
	a := inst(ref(2, 1), write(0, 1, 0, "a"), 5, ref(0, 1))
	b := inst(ref(1, 1), write(1, 1, 0, "b"), 5, ref(2, 1))
	c := inst(ref(0, 1), write(2, 1, 0, "c"), 9, ref(1, 1))
	r := inst(ref(0, 2), read(3, 1, 0, 1), 1, c.Ref)
	x := starts(t, begun(t, 0, 4))
	advances(t, "a is unknown", x, insts(b, c, r), nil, a.Ref)
	advances(t, "c is unknown", x, insts(a, b, r), nil, c.Ref)
	advances(t, "c isn't decided", x, insts(a, b, as(api.Taken, c), r), nil, c.Ref)
	advances(t, "all", x, insts(r, c, a, b), rans(done(b), done(a), done(c), done(r, "c")))
}

// P9.2: of those that don't need each other the one whose Seq, then whose Ref is less goes first.
func TestAdvanceOfFreeOnes(t *testing.T) {
	a := inst(ref(2, 1), write(0, 1, 0, "a"), 1)
	b := inst(ref(0, 7), write(1, 1, 1, "b"), 2)
	c := inst(ref(1, 2), write(2, 1, 2, "c"), 2)
	d := inst(ref(0, 1), write(3, 1, 3, "d"), 3)
	x := starts(t, begun(t, 0, 4))
	advances(t, "all at once", x, insts(d, c, b, a), rans(done(a), done(b), done(c), done(d)))
	y := starts(t, begun(t, 0, 4))
	advances(t, "d", y, insts(d), rans(done(d)))
	advances(t, "c and a", y, insts(d, c, a), rans(done(a), done(c)))
	advances(t, "b", y, insts(d, c, b, a), rans(done(b)))
	if !blocks.Same(x.Store(), y.Store()) {
		t.Error("the stores are others")
	}
}

// P9.2: wants is Plan's: all that is needed and neither done nor decided, rising, each once.
func TestAdvanceWants(t *testing.T) {
	a := inst(ref(0, 1), api.Cmd{}, 1)
	b := inst(ref(1, 1), api.Cmd{}, 1, ref(6, 2), a.Ref, ref(6, 1), ref(0, 9))
	c := as(api.Seen, inst(ref(2, 1), api.Cmd{}, 1, ref(3, 3), a.Ref))
	d := inst(ref(2, 2), api.Cmd{}, 1, c.Ref, ref(6, 1))
	x := starts(t, begun(t, 0, 4))
	advances(t, "wants", x, insts(a, b, c, d), rans(done(a)), ref(0, 9), ref(2, 1), ref(3, 3), ref(6, 1), ref(6, 2))
	advances(t, "wants, without what is done", x, insts(b, c, d), nil, ref(0, 9), ref(2, 1), ref(3, 3), ref(6, 1), ref(6, 2))
	advances(t, "c is told no more", x, insts(d), nil, ref(2, 1), ref(6, 1))
}

// P9.2: anything that is told, held against Plan and a store.
func TestAdvanceDrawn(t *testing.T) {
	d := newDice(91)
	ranAtAll, waited, refusedAtAll := 0, 0, 0
	for i := range 1500 {
		world := d.world(14, d.anyCmd)
		s := begun(t, i%2, 7)
		x := starts(t, s)
		var past []api.Ref
		var log []api.Ran
		for step := range 6 {
			l := append(d.part(world), d.part(world)...)
			if step == 5 {
				l = world
			}
			order, wants := graph.Plan(l, past)
			var ran []api.Ran
			for _, r := range order {
				at := slices.IndexFunc(l, func(x api.Inst) bool { return x.Ref == r })
				reply, e := s.Apply(l[at].Cmd)
				if e != api.OK {
					reply = api.Reply{}
					refusedAtAll++
				}
				ran = append(ran, api.Ran{Ref: r, Cmd: l[at].Cmd, Reply: reply})
			}
			advances(t, "drawn", x, l, ran, wants...)
			past, log = append(past, order...), append(log, ran...)
			waited += len(wants)
		}
		has(t, "drawn", x, s, log...)
		if t.Failed() {
			t.Fatalf("draw %d", i)
		}
		ranAtAll += len(log)
	}
	if ranAtAll < 10000 || waited < 5000 || refusedAtAll < 500 {
		t.Errorf("the draws are too dull: %d ran, %d were wanted, %d refused", ranAtAll, waited, refusedAtAll)
	}
}
