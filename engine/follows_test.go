package engine_test

import (
	"slices"
	"testing"

	"lamella/accord"
	"lamella/api"
	"lamella/blocks"
	"lamella/engine"
)

// lives is an engine that hears of the world in some steps, each time of a part of it, and at last of all.
func lives(t *testing.T, d dice, s *blocks.Store, world []api.Inst) *engine.Engine {
	t.Helper()
	x := starts(t, s)
	for range d.Intn(8) {
		x.Advance(d.part(world))
		if d.Intn(4) == 0 {
			x = x.Clone()
		}
	}
	if _, wants := x.Advance(world); len(wants) != 0 || len(x.Done()) != len(world) {
		t.Fatalf("all decided, and yet %d of %d executed, wants %v", len(x.Done()), len(world), wants)
	}
	return x
}

// places is where each instance stands in a log.
func places(log []api.Ran) map[api.Ref]int {
	at := map[api.Ref]int{}
	for i, r := range log {
		at[r.Ref] = i
	}
	return at
}

// sameOrder checks that two logs have those that are in both, and meddle, in the same order, and says how many such pairs there are, and how many pairs changed places.
func sameOrder(t *testing.T, a, b []api.Ran) (pairs, changed int) {
	t.Helper()
	at := places(b)
	for i, x := range a {
		for _, y := range a[:i] {
			p, in := at[x.Ref]
			q, too := at[y.Ref]
			if !in || !too {
				continue
			}
			if !blocks.Meddle(x.Cmd, y.Cmd) {
				if p < q {
					changed++
				}
				continue
			}
			if pairs++; p < q {
				t.Errorf("%v goes ahead of %v, and elsewhere behind it", y.Ref, x.Ref)
			}
		}
	}
	return pairs, changed
}

// told: does the reply of such a command tell what the store had? (A command that does nothing meddles with nothing, and yet a frozen store does not do it.)
func told(c api.Cmd) bool { return c.Op != api.OpNone }

// P9.4, P9.6: engines on the same store that hear of the same world in whatever steps: what meddles in the same order, the same replies, and the same stores in the end.
func TestOneOrder(t *testing.T) {
	d := newDice(94)
	pairs, changed := 0, 0
	for i := range 1500 {
		world := d.world(2+d.Intn(16), d.cmd)
		s := begun(t, 0, 8, write(0, 1, 0, "0", "1", "2", "3"))
		a, b := lives(t, d, s, world), lives(t, d, s, world)
		p, c := sameOrder(t, a.Log(), b.Log())
		pairs, changed = pairs+p, changed+c
		if !blocks.Same(a.Store(), b.Store()) {
			t.Errorf("they have executed the same, and yet their stores are not the same")
		}
		at, log := places(b.Log()), b.Log()
		for _, x := range a.Log() {
			if y := log[at[x.Ref]]; told(x.Cmd) && !alike(x, y) {
				t.Errorf("%v, and elsewhere %v", x, y)
			}
		}
		if t.Failed() {
			t.Fatalf("draw %d: %v, and %v, of %v", i, a.Done(), b.Done(), world)
		}
	}
	if pairs < 10000 || changed < 1000 {
		t.Errorf("the draws are too dull: %d pairs, %d changed places", pairs, changed)
	}
}

// P9.4: also while they have not executed the same yet; and when they have, their stores are the same.
func TestOneOrderOnTheWay(t *testing.T) {
	d := newDice(95)
	pairs, alikes := 0, 0
	for i := range 800 {
		world := d.world(8, d.anyCmd)
		a, b := starts(t, begun(t, 0, 8)), starts(t, begun(t, 0, 8))
		for range 12 {
			a.Advance(d.part(world))
			b.Advance(d.part(world))
			p, _ := sameOrder(t, a.Log(), b.Log())
			pairs += p
			if len(a.Done()) > 0 && sameRefs(a.Done(), b.Done()) {
				alikes++
				if !blocks.Same(a.Store(), b.Store()) {
					t.Errorf("they have executed the same, and yet their stores are not the same")
				}
			}
		}
		if t.Failed() {
			t.Fatalf("draw %d: %v, and %v, of %v", i, a.Done(), b.Done(), world)
		}
	}
	if pairs < 5000 || alikes < 500 {
		t.Errorf("the draws are too dull: %d pairs, %d times the same", pairs, alikes)
	}
}

// sameRefs: are they the same, in whatever order?
func sameRefs(a, b []api.Ref) bool {
	return len(a) == len(b) && !slices.ContainsFunc(a, func(r api.Ref) bool { return !slices.Contains(b, r) })
}

// P9.5: each instance is executed once, whatever is told of it again.
func TestOnce(t *testing.T) {
	d := newDice(96)
	for i := range 500 {
		world := d.world(10, d.anyCmd)
		x := lives(t, d, begun(t, 0, 6), world)
		log, s := x.Log(), x.Store()
		for range 4 {
			l := append(d.part(world), world...)
			for k := range l {
				l[k].Cmd = d.anyCmd()
			}
			advances(t, "again", x, l, nil)
		}
		has(t, "again", x, s, log...)
		if len(places(log)) != len(log) {
			t.Errorf("some were executed twice: %v", x.Done())
		}
		if t.Failed() {
			t.Fatalf("draw %d", i)
		}
	}
}

// P9.5: behind a freeze nothing changes: all that comes is executed, replies that it isn't Ok, and leaves the store as it is.
func TestBehindAFreeze(t *testing.T) {
	d := newDice(97)
	behind := 0
	for i := range 500 {
		f := inst(ref(6, 1), freeze(), 0)
		world := append(d.world(10, d.anyCmd), f)
		for k := range world[:10] {
			if d.Intn(2) == 0 {
				world[k].Deps = append(world[k].Deps, f.Ref)
			}
		}
		x := starts(t, begun(t, 0, 6, write(0, 1, 0, "a", "b")))
		x.Advance(insts(f))
		if !x.Frozen() {
			t.Fatal("not frozen")
		}
		for range 4 {
			x.Advance(d.part(world))
		}
		x.Advance(world)
		has(t, "behind a freeze", x, begun(t, 0, 6, write(0, 1, 0, "a", "b"), freeze()), x.Log()...)
		for _, r := range x.Since(1) {
			behind++
			if r.Reply.Ok || len(r.Reply.Data) != 0 {
				t.Errorf("draw %d: %v behind a freeze", i, r)
			}
		}
	}
	if behind != 5000 {
		t.Errorf("%d were executed behind a freeze, not 5000", behind)
	}
}

// P9.6: what a command replies is what it replies behind those that meddle with it, and were executed ahead, alone.
func TestReplies(t *testing.T) {
	d := newDice(98)
	left := 0
	for i := range 800 {
		s := begun(t, 0, 7, write(3, 1, 0, "0", "1", "2", "3"))
		log := lives(t, d, s, d.world(14, d.anyCmd)).Log()
		for k, r := range log {
			alone := s.Clone()
			for _, ahead := range log[:k] {
				if blocks.Meddle(ahead.Cmd, r.Cmd) {
					alone.Apply(ahead.Cmd)
				} else {
					left++
				}
			}
			if reply, _ := alone.Apply(r.Cmd); told(r.Cmd) && !repliesAlike(reply, r.Reply) {
				t.Fatalf("draw %d: %v, and alone %v", i, r, reply)
			}
		}
	}
	if left < 10000 {
		t.Errorf("the draws are too dull: %d were left out", left)
	}
}

// P9.2, P6.7: a long row, told backward, and long rows that are known and done.
func TestLongRow(t *testing.T) {
	const many = 30000
	l := make([]api.Inst, many)
	for i := range l {
		l[i] = inst(ref(0, i), write(0, 1+i, 0, "x"), many-i)
		if i > 0 {
			l[i].Deps = refs(ref(0, i-1))
		}
	}
	last := inst(ref(1, 1), read(1, 1, 0, 1), 0, ref(0, many-1), ref(0, 0))
	l = append(l, last)
	slices.Reverse(l)
	x := starts(t, begun(t, 0, 1))
	advances(t, "the first isn't known", x, l[:many], nil, ref(0, 0))
	ran, wants := x.Advance(l)
	if len(ran) != many+1 || ran[0].Ref != ref(0, 0) || !alike(ran[many], done(last, "x")) || len(wants) != 0 {
		t.Errorf("%d ran, %d are wanted", len(ran), len(wants))
	}
	for i := range 20 {
		next := inst(ref(2, i), api.Cmd{}, 0, last.Ref)
		l = append(l, next)
		advances(t, "one more", x, l, rans(done(next)))
	}
}

// member is a node's part in a shard: what it agrees on, and what it executes.
type member struct {
	replica *accord.Replica
	engine  *engine.Engine
	wants   []api.Ref
}

// shard is three members, and the mails that are under way.
type shard struct {
	members []*member
	mails   []api.Mail
}

func opens(t *testing.T) *shard {
	t.Helper()
	s := &shard{}
	for self := range 3 {
		r, e := accord.New(self, 1, []int{0, 1, 2}, nil)
		if e != api.OK {
			t.Fatal(e)
		}
		s.members = append(s.members, &member{replica: r, engine: starts(t, begun(t, 0, 8))})
	}
	return s
}

// goOn sends what is asked for, and executes what is decided.
func (s *shard) goOn(m *member, out api.Out) {
	s.mails = append(s.mails, out.Mails...)
	_, m.wants = m.engine.Advance(m.replica.Insts())
}

// arrive has a mail come; some are lost, or come twice.
func (s *shard) arrive(d dice, storm bool) {
	at := d.Intn(len(s.mails))
	mail := s.mails[at]
	if !storm || d.Intn(5) > 0 {
		s.mails = slices.Delete(s.mails, at, at+1)
	}
	if storm && d.Intn(5) == 0 {
		return
	}
	m := s.members[mail.To]
	s.goOn(m, m.replica.Hear(mail))
}

// round has all that is under way come, and everybody tick.
func (s *shard) round(d dice) {
	for range len(s.mails) {
		s.arrive(d, false)
	}
	for _, m := range s.members {
		s.goOn(m, m.replica.Tick(m.wants))
	}
}

// P2: members that agree by layer 8, in a storm and in the calm behind it: what they execute, whenever they hear of it, is in one order, and in the end is the same.
func TestMembers(t *testing.T) {
	d := newDice(99)
	changed := 0
	for run := range 25 {
		s := opens(t)
		proposed := 0
		for range 150 {
			m := s.members[d.Intn(3)]
			switch {
			case d.Intn(6) == 0 && proposed < 20:
				if _, out, e := m.replica.Propose(d.cmd()); e == api.OK {
					proposed++
					s.goOn(m, out)
				}
			case d.Intn(10) == 0:
				s.goOn(m, m.replica.Tick(m.wants))
			case len(s.mails) > 0:
				s.arrive(d, true)
			}
		}
		for range 60 {
			s.round(d)
		}
		first := s.members[0].engine
		for _, m := range s.members {
			log := m.engine.Log()
			if len(log) < proposed || len(m.wants) != 0 {
				t.Errorf("run %d: %d of %d were executed, wants %v", run, len(log), proposed, m.wants)
			}
			_, c := sameOrder(t, first.Log(), log)
			changed += c
			if !blocks.Same(m.engine.Store(), first.Store()) {
				t.Errorf("run %d: the stores are not the same", run)
			}
		}
	}
	if changed == 0 {
		t.Error("the storms are too dull: all executed all in one order")
	}
}
