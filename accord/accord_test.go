package accord_test

import (
	"math"
	"slices"
	"testing"

	"lamella/accord"
	"lamella/api"
)

// refused checks a New that is ErrArg.
func refused(t *testing.T, what string, self int, members []int, l ...api.Inst) {
	t.Helper()
	if r, e := accord.New(self, shard, members, l); r != nil || e != api.ErrArg {
		t.Errorf("%s: New of %d among %v is %v, error %d", what, self, members, r, e)
	}
}

// P8.1: members are an odd number of nodes, rising, self among them.
func TestNewOfMembers(t *testing.T) {
	for _, members := range [][]int{{0}, {6}, {0, 1, 2}, {1, 3, 6}, {4, 5, 6}, five(), {0, 2, 3, 5, 6}, seven()} {
		for _, self := range members {
			has(t, "a new one", begins(t, self, members), 0)
		}
		for self := -1; self <= 7; self++ {
			if !slices.Contains(members, self) {
				refused(t, "self isn't among them", self, members)
			}
		}
	}
	for _, members := range [][]int{
		nil, {}, {0, 1}, {0, 1, 2, 3}, {0, 1, 2, 3, 4, 5}, {0, 1, 2, 3, 4, 5, 6, 7},
		{0, 0, 1}, {0, 1, 1}, {0, 2, 1}, {1, 0, 2}, {2, 1, 0}, {0, 0, 0}, {-1, 0, 1}, {0, 1, 7}, {0, 6, 8}, {math.MinInt, 0, math.MaxInt},
	} {
		refused(t, "they may not be", 0, members)
	}
	refused(t, "seven that are too great", 7, []int{1, 2, 3, 4, 5, 6, 7})
	refused(t, "one that is below 0", -1, []int{-1})
	refused(t, "one that is no node", 7, []int{7})
}

// P8.1: any number is a shard's.
func TestNewOfShards(t *testing.T) {
	for _, n := range []int{0, -1, 1, math.MinInt, math.MaxInt} {
		r, e := accord.New(0, n, three(), nil)
		if e != api.OK {
			t.Fatalf("shard %d: error %d", n, e)
		}
		_, out := proposes(t, r, freeze())
		for _, m := range out.Mails {
			if m.Shard != n {
				t.Errorf("a mail of shard %d, not %d", m.Shard, n)
			}
		}
	}
}

// P8.1: each of l may be, has a Ref of its own, and a Lead that is a member; the replica knows them, and has no try of them.
func TestNewKnows(t *testing.T) {
	a := same(seen(ref(1, 1), ballot(0, 1), write(0, 1, 1), 1))
	b := above(taken(ref(3, 2), ballot(1, 6), read(1, 0, 3), 2, ref(1, 1)), ballot(4, 0))
	c := done(ref(3, 7), ballot(2, 3), freeze(), 1<<40, ref(0, 9), ref(1, 1), ref(6, 1<<30))
	d := bare(ref(6, 1<<30), ballot(1<<30, 6))
	members := []int{1, 3, 6}
	has(t, "all of them", begins(t, 3, members, d, b, a, c), 0, a, b, c, d)
	has(t, "one of them", begins(t, 1, members, c), 0, c)
	refused(t, "a Ref twice", 3, members, a, b, a)
	refused(t, "a Ref of two", 3, members, a, b, bare(ref(1, 1), ballot(0, 0)))
	refused(t, "a Lead that is no member", 3, members, a, b, bare(ref(2, 1), ballot(0, 0)))
	refused(t, "a Lead that is no node", 3, members, bare(ref(7, 1), ballot(0, 0)))
	refused(t, "an Index 0", 3, members, a, bare(ref(1, 0), ballot(0, 0)))
	refused(t, "a Vote above the Ballot", 3, members, above(a, ballot(0, 0)), b)
	refused(t, "a command that may not be", 3, members, b, seen(ref(1, 1), ballot(0, 1), api.Cmd{Op: 9}, 1))
	refused(t, "a zero one", 3, members, api.Inst{})
}

// P8.1, P8.2: of more than the table takes the first ones are known.
func TestNewOfMoreThanATableTakes(t *testing.T) {
	l := append(full(), same(seen(ref(0, 1), ballot(0, 0), freeze(), 1)))
	has(t, "too many", begins(t, 0, three(), l...), 0, full()...)
	slices.Reverse(l)
	has(t, "too many, the other way round", begins(t, 0, three(), l...), 0, slices.Concat(l[:1], full()[1:])...)
}

// P8.8: Get, Insts, Tries.
func TestFaces(t *testing.T) {
	r := begins(t, 1, three(), done(ref(2, 5), ballot(0, 2), freeze(), 1))
	for _, x := range refs(ref(2, 4), ref(2, 6), ref(0, 5), ref(-1, 0), ref(math.MaxInt, math.MinInt)) {
		if x, in := r.Get(x); in || !alike(x, api.Inst{}) {
			t.Errorf("Get of what isn't known: %v, %v", x, in)
		}
	}
	proposes(t, r, freeze())
	proposes(t, r, freeze())
	x := same(seen(ref(1, 1), ballot(0, 1), freeze(), 2, ref(2, 5)))
	y := same(seen(ref(1, 2), ballot(0, 1), freeze(), 3, ref(1, 1), ref(2, 5)))
	has(t, "two tries", r, 2, x, y, done(ref(2, 5), ballot(0, 2), freeze(), 1))
}

// P8.8: of a nil Replica nothing; Propose is ErrNone, whatever is proposed.
func TestNilReplica(t *testing.T) {
	var r *accord.Replica
	for _, c := range []api.Cmd{{}, freeze(), {Op: 9}} {
		x, out, e := r.Propose(c)
		if x != (api.Ref{}) || e != api.ErrNone {
			t.Errorf("Propose: %v, error %d", x, e)
		}
		asksNothing(t, "Propose", out)
	}
	asksNothing(t, "Hear", r.Hear(mail(api.MailAsk, 1, 0, bare(ref(0, 1), ballot(1, 1)))))
	asksNothing(t, "Tick", r.Tick(refs(ref(0, 1))))
	has(t, "nil", r, 0)
	if x, in := r.Get(ref(0, 1)); in || !alike(x, api.Inst{}) {
		t.Errorf("Get: %v, %v", x, in)
	}
}

// spoil changes what a call was handed, or has answered.
func spoil(l ...*api.Inst) {
	for _, x := range l {
		for i := range x.Cmd.Data {
			x.Cmd.Data[i] = "spoilt"
		}
		for i := range x.Deps {
			x.Deps[i] = ref(6, 6)
		}
	}
}

// spoilOut changes all that was asked for.
func spoilOut(out api.Out) {
	for i := range out.Saves {
		spoil(&out.Saves[i])
	}
	for i := range out.Mails {
		spoil(&out.Mails[i].Inst)
	}
}

// Rule 4: what is handed in isn't kept, and an answer is new memory.
func TestMemory(t *testing.T) {
	x := func() api.Inst { return done(ref(1, 1), ballot(0, 1), write(0, 1, 0), 1, ref(1, 9)) }
	y := func() api.Inst { return same(seen(ref(0, 1), ballot(0, 0), write(1, 1, 0), 2, ref(1, 1))) }
	members, l := three(), saves(x())
	r, _ := accord.New(0, shard, members, l)
	members[1] = 9
	spoil(&l[0])
	c := write(1, 1, 0)
	_, out, _ := r.Propose(c)
	c.Data[0] = "spoilt"
	spoilOut(out)
	for _, z := range r.Insts() {
		spoil(&z)
	}
	z, _ := r.Get(ref(0, 1))
	spoil(&z)
	has(t, "spoilt", r, 1, y(), x())
	quiet(t, "spoilt", r, 3)
	again := func() []api.Mail { return mails(api.MailPre, 0, y(), 1, 2) }
	for range 2 {
		out = r.Tick(nil)
		asks(t, "mails again", withoutNext(out), nil, again()...)
		spoilOut(out)
		quiet(t, "spoilt", r, 3)
	}
}

// Rule 4: nor are mails kept, of which a try is made.
func TestMemoryOfMails(t *testing.T) {
	r := begins(t, 0, five())
	quiet(t, "it waits", r, 7+4*4, ref(1, 1))
	r.Tick(refs(ref(1, 1)))
	x := func() api.Inst {
		return above(taken(ref(1, 1), ballot(0, 1), write(0, 1, 0), 3, ref(2, 2)), ballot(1, 0))
	}
	m := mail(api.MailTell, 3, 0, x())
	tells(t, "a tell", r, m)
	spoil(&m.Inst)
	want := func() api.Inst { return taken(ref(1, 1), ballot(1, 0), write(0, 1, 0), 3, ref(2, 2)) }
	out := r.Hear(mail(api.MailTell, 4, 0, bare(ref(1, 1), ballot(1, 0))))
	asks(t, "what was told", out, saves(want()), mails(api.MailTake, 0, want(), 1, 2, 3, 4)...)
	spoilOut(out)
	has(t, "spoilt", r, 1, want())
	m = mail(api.MailTake, 2, 0, taken(ref(2, 9), ballot(0, 2), write(2, 1, 3), 3, ref(2, 2)))
	out = r.Hear(m)
	spoil(&m.Inst)
	spoilOut(out)
	has(t, "spoilt", r, 1, want(), taken(ref(2, 9), ballot(0, 2), write(2, 1, 3), 3, ref(2, 2)))
}
