package insts_test

import (
	"math"
	"slices"
	"testing"

	"lamella/api"
	"lamella/insts"
)

// P7.4: the document's example.
func TestOrderExample(t *testing.T) {
	table := insts.New()
	puts(t, table, seen(ref(0, 1), write(0, 1, 1, "a"), 1))
	orders(t, "blocks 0 and 1", table, read(1, 0, 2), ref(1, 1), 2, ref(0, 1))
	orders(t, "block 2", table, read(1, 2, 3), ref(1, 1), 1)
}

// P7.4: the Refs rise, however the instances came, and Seq is that of all of them.
func TestOrder(t *testing.T) {
	l := []api.Inst{
		seen(ref(0, 1), write(0, 1, 0, "a", "b"), 4),
		seen(ref(0, 7), write(1, 1, 1, "c"), 1<<40),
		seen(ref(1, 1), read(2, 0, 1), 9),
		seen(ref(1, 2), command(api.OpTrim, 0, 2, 5, 6), 30),
		seen(ref(5, 3), api.Cmd{}, 50),
		{Ref: ref(6, 1), Ballot: ballot(9, 1)},
		seen(ref(6, 2), read(1, 7, 8), 0),
	}
	d := newDice()
	for range 20 {
		table := insts.New()
		for _, i := range d.Perm(len(l)) {
			puts(t, table, l[i])
		}
		self := ref(3, 1)
		orders(t, "a read of another client", table, read(3, 0, 2), self, 1<<40+1, ref(0, 1), ref(0, 7))
		orders(t, "a read of block 0", table, read(3, 0, 1), self, 5, ref(0, 1))
		orders(t, "a write of block 0", table, write(3, 1, 0, "x"), self, 10, ref(0, 1), ref(1, 1))
		orders(t, "blocks that nobody has", table, write(3, 1, 100, "x"), self, 1)
		orders(t, "the same client", table, read(0, 100, 101), self, 31, ref(0, 1), ref(1, 2))
		orders(t, "a Seq of 0", table, write(3, 1, 7, "x"), self, 1, ref(6, 2))
		orders(t, "a flush", table, command(api.OpFlush, 3, 1, 0, 1), self, 5, ref(0, 1))
		orders(t, "what does nothing", table, api.Cmd{}, self, 1)
		orders(t, "a freeze", table, api.Cmd{Op: api.OpFreeze}, self, 1<<40+1, ref(0, 1), ref(0, 7), ref(1, 1), ref(1, 2), ref(6, 2))
	}
}

// P7.4: self is left out, its Seq too, and nothing else is.
func TestOrderOfSelf(t *testing.T) {
	table := insts.New()
	puts(t, table, seen(ref(0, 1), write(0, 1, 0, "a"), 5), seen(ref(0, 2), write(1, 1, 0, "a"), 3), seen(ref(1, 1), write(2, 1, 0, "a"), 4))
	c := write(3, 1, 0, "x")
	orders(t, "self is none of them", table, c, ref(1, 2), 6, ref(0, 1), ref(0, 2), ref(1, 1))
	orders(t, "self has the greatest Seq", table, c, ref(0, 1), 5, ref(0, 2), ref(1, 1))
	orders(t, "self has a lower one", table, c, ref(0, 2), 6, ref(0, 1), ref(1, 1))
	orders(t, "self is of another Lead", table, c, ref(1, 1), 6, ref(0, 1), ref(0, 2))
	for _, self := range refs(ref(0, 0), ref(-1, 1), ref(7, 1), ref(math.MinInt, math.MaxInt)) {
		orders(t, "self is no Ref", table, c, self, 6, ref(0, 1), ref(0, 2), ref(1, 1))
	}
	alone := insts.New()
	puts(t, alone, seen(ref(0, 1), write(0, 1, 0, "a"), 5))
	orders(t, "self alone", alone, c, ref(0, 1), 1)
}

// P7.4: of Status Seen or more, whatever the ballots; what was put anew counts as it is now.
func TestOrderByStatus(t *testing.T) {
	c, r := write(3, 1, 0, "x"), ref(0, 1)
	table := insts.New()
	for _, status := range []int{api.Seen, api.Taken, api.Done} {
		x := seen(r, write(0, 1, 0, "a"), 7)
		x.Status, x.Ballot, x.Vote = status, ballot(8, 1), ballot(3, 3)
		puts(t, table, x)
		orders(t, "it is known", table, c, ref(1, 1), 8, r)
	}
	puts(t, table, seen(r, write(0, 1, 1, "a"), 7))
	orders(t, "it is a command of another block now", table, c, ref(1, 1), 1)
	puts(t, table, seen(r, write(0, 1, 0, "a"), 2))
	orders(t, "its Seq is lower now", table, c, ref(1, 1), 3, r)
	puts(t, table, api.Inst{Ref: r, Ballot: ballot(8, 1)})
	orders(t, "nothing is known of it now", table, c, ref(1, 1), 1)
	orders(t, "nor by a freeze", table, api.Cmd{Op: api.OpFreeze}, ref(1, 1), 1)
}

// meddles is Meddle by the words of P5.2, block by block.
func meddles(a, b api.Cmd) bool {
	if a.Op == api.OpNone || b.Op == api.OpNone {
		return false
	}
	if a.Op == api.OpFreeze || b.Op == api.OpFreeze || a.Client == b.Client {
		return true
	}
	both := false
	for block := -9; block < 30; block++ {
		both = both || a.From <= block && block < a.To && b.From <= block && block < b.To
	}
	leave := func(op int) bool { return op == api.OpRead || op == api.OpFlush }
	return both && (!leave(a.Op) || !leave(b.Op))
}

// modelOrder is Order, word by word.
func modelOrder(model map[api.Ref]api.Inst, c api.Cmd, self api.Ref) (int, []api.Ref) {
	seq := 1
	var deps []api.Ref
	for _, x := range rising(model) {
		if x.Status >= 1 && x.Ref != self && meddles(x.Cmd, c) {
			seq = max(seq, x.Seq+1)
			deps = append(deps, x.Ref)
		}
	}
	return seq, deps
}

// P7.4: draws, held against the model, also of commands that may not be.
func TestOrderDrawn(t *testing.T) {
	d := newDice()
	for range 1000 {
		table, model := d.table(t, 25)
		for range 10 {
			c := d.cmd()
			if d.Intn(3) == 0 {
				c = api.Cmd{Op: d.Intn(9) - 2, Client: d.Intn(7) - 2, Seq: -1, From: d.Intn(12) - 4, To: d.Intn(12) - 4}
			}
			self := d.ref()
			seq, deps := modelOrder(model, c, self)
			orders(t, "a draw", table, c, self, seq, deps...)
		}
		has(t, "it stays", table, rising(model)...)
	}
}

// later checks that x, which came to a table behind those of past, sees those that meddle.
func later(t *testing.T, past []api.Inst, x api.Inst) {
	t.Helper()
	for _, y := range past {
		in := slices.Contains(x.Deps, y.Ref)
		if in != meddles(x.Cmd, y.Cmd) || in && x.Seq <= y.Seq {
			t.Fatalf("%v came behind %v", x, y)
		}
	}
}

// P7.6: whoever comes later sees those that came ahead.
func TestLaterOnesSeeEarlierOnes(t *testing.T) {
	d := newDice()
	for range 200 {
		table := insts.New()
		var past []api.Inst
		for range 1 + d.Intn(40) {
			x := api.Inst{Status: 1 + d.Intn(3), Cmd: d.cmd()}
			x.Ref.Lead = d.Intn(7)
			x.Ref.Index = table.Next(x.Ref.Lead)
			x.Seq, x.Deps = table.Order(x.Cmd, x.Ref)
			puts(t, table, x)
			later(t, past, x)
			past = append(past, x)
		}
	}
}

// P7.6: also of a table as full as can be, all of whose instances meddle.
func TestLaterOnesOfMany(t *testing.T) {
	table := insts.New()
	for i := range api.MaxList {
		r := ref(i%7, table.Next(i%7))
		seq, deps := table.Order(api.Cmd{Op: api.OpFreeze}, r)
		if seq != i+1 || len(deps) != i {
			t.Fatalf("number %d: Order is %d, %d Deps", i, seq, len(deps))
		}
		if i%512 == 511 {
			puts(t, table, seen(r, api.Cmd{Op: api.OpFreeze}, seq, deps...))
		} else {
			puts(t, table, seen(r, api.Cmd{Op: api.OpFreeze}, seq))
		}
	}
	seq, deps := table.Order(api.Cmd{Op: api.OpFreeze}, ref(0, 1<<30))
	if seq != 4097 || len(deps) != 4096 {
		t.Errorf("of all: %d, %d Deps", seq, len(deps))
	}
	refuses(t, "one more", table, seen(ref(0, 1<<30), api.Cmd{Op: api.OpFreeze}, seq, deps...), api.ErrBig)
	if x := seen(ref(0, 1<<30), api.Cmd{Op: api.OpFreeze}, seq, deps...); !insts.May(x) {
		t.Error("it may not be")
	}
}
