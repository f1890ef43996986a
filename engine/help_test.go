package engine_test

import (
	"math"
	"math/rand"
	"slices"
	"testing"

	"lamella/api"
	"lamella/blocks"
	"lamella/engine"
)

func ref(lead, index int) api.Ref { return api.Ref{Lead: lead, Index: index} }

// refs is a list of Refs as it may be written by hand.
func refs(l ...api.Ref) []api.Ref { return l }

func write(client, seq, from int, texts ...string) api.Cmd {
	return api.Cmd{Op: api.OpWrite, Client: client, Seq: seq, From: from, To: from + len(texts), Data: texts}
}

// command is one that has no texts.
func command(op, client, seq, from, to int) api.Cmd {
	return api.Cmd{Op: op, Client: client, Seq: seq, From: from, To: to}
}

func read(client, seq, from, to int) api.Cmd { return command(api.OpRead, client, seq, from, to) }

func freeze() api.Cmd { return api.Cmd{Op: api.OpFreeze} }

// inst is an instance that is Done.
func inst(r api.Ref, c api.Cmd, seq int, deps ...api.Ref) api.Inst {
	return api.Inst{Ref: r, Status: api.Done, Cmd: c, Seq: seq, Deps: deps}
}

func insts(l ...api.Inst) []api.Inst { return l }

// as is x with another status.
func as(status int, x api.Inst) api.Inst {
	x.Status = status
	return x
}

// done is what an instance comes to whose command is done, with the texts that it replies.
func done(x api.Inst, texts ...string) api.Ran {
	return api.Ran{Ref: x.Ref, Cmd: x.Cmd, Reply: api.Reply{Ok: true, Data: texts}}
}

// undone is what an instance comes to whose command is refused, or comes behind a freeze.
func undone(x api.Inst) api.Ran { return api.Ran{Ref: x.Ref, Cmd: x.Cmd} }

func rans(l ...api.Ran) []api.Ran { return l }

// alike: are all fields the same?
func alike(a, b api.Ran) bool {
	numbers := func(x api.Ran) [7]int {
		return [7]int{x.Ref.Lead, x.Ref.Index, x.Cmd.Op, x.Cmd.Client, x.Cmd.Seq, x.Cmd.From, x.Cmd.To}
	}
	return numbers(a) == numbers(b) && slices.Equal(a.Cmd.Data, b.Cmd.Data) && repliesAlike(a.Reply, b.Reply)
}

func repliesAlike(a, b api.Reply) bool { return a.Ok == b.Ok && slices.Equal(a.Data, b.Data) }

// begun is a new store of the blocks from from to before to, behind some commands.
func begun(t *testing.T, from, to int, l ...api.Cmd) *blocks.Store {
	t.Helper()
	s, e := blocks.New(api.Span{From: from, To: to})
	if e != api.OK {
		t.Fatalf("a store from %d to %d: error %d", from, to, e)
	}
	for _, c := range l {
		if r, e := s.Apply(c); !r.Ok || e != api.OK {
			t.Fatalf("%v: Ok %v, error %d", c, r.Ok, e)
		}
	}
	return s
}

// starts is an engine on s.
func starts(t *testing.T, s *blocks.Store) *engine.Engine {
	t.Helper()
	x, e := engine.New(s)
	if x == nil || e != api.OK {
		t.Fatalf("New: %v, error %d", x != nil, e)
	}
	return x
}

// advances checks what Advance tells.
func advances(t *testing.T, what string, x *engine.Engine, l []api.Inst, ran []api.Ran, wants ...api.Ref) {
	t.Helper()
	r, w := x.Advance(l)
	if !slices.EqualFunc(r, ran, alike) {
		t.Errorf("%s: ran %v, not %v", what, r, ran)
	}
	if !slices.Equal(w, wants) {
		t.Errorf("%s: wants %v, not %v", what, w, wants)
	}
}

// has checks all else that an engine tells.
func has(t *testing.T, what string, x *engine.Engine, s *blocks.Store, log ...api.Ran) {
	t.Helper()
	if !blocks.Same(x.Store(), s) || x.Frozen() != s.Frozen() {
		t.Errorf("%s: the store is another one, frozen %v", what, x.Frozen())
	}
	var order []api.Ref
	for _, r := range log {
		order = append(order, r.Ref)
	}
	if got := x.Done(); !slices.Equal(got, order) {
		t.Errorf("%s: done is %v, not %v", what, got, order)
	}
	if got := x.Log(); !slices.EqualFunc(got, log, alike) {
		t.Errorf("%s: the log is %v, not %v", what, got, log)
	}
	for k := range len(log) + 3 {
		if got := x.Since(k); !slices.EqualFunc(got, log[min(k, len(log)):], alike) {
			t.Errorf("%s: since %d there is %v", what, k, got)
		}
	}
	for _, k := range []int{-1, -2, -len(log), math.MinInt, math.MaxInt} {
		if got := x.Since(k); k != 0 && len(got) != 0 {
			t.Errorf("%s: since %d there is %v", what, k, got)
		}
	}
}

// dice are the same in each run.
type dice struct{ *rand.Rand }

func newDice(seed int64) dice { return dice{rand.New(rand.NewSource(seed))} }

// texts are n ones that tell who wrote them.
func (d dice) texts(n int) []string {
	var l []string
	for range n {
		l = append(l, string(rune('a'+d.Intn(26)))+string(rune('a'+d.Intn(26))))
	}
	return l
}

// cmd is one that may be, on few blocks from 0 to 7, of all kinds; a freeze is seldom.
func (d dice) cmd() api.Cmd {
	client, seq, from := d.Intn(4), 1+d.Intn(9), d.Intn(6)
	n := 1 + d.Intn(2)
	switch d.Intn(40) {
	case 0:
		return freeze()
	case 1, 2, 3:
		return api.Cmd{}
	case 4, 5, 6:
		return command(api.OpFlush, client, seq, from, from+n)
	case 7, 8, 9, 10, 11:
		return command(api.OpTrim, client, seq, from, from+n)
	case 12, 13, 14, 15, 16, 17, 18, 19, 20, 21:
		return read(client, seq, from, from+n)
	}
	return write(client, seq, from, d.texts(n)...)
}

// anyCmd is one of which some may not be.
func (d dice) anyCmd() api.Cmd {
	c := d.cmd()
	switch d.Intn(20) {
	case 0:
		c.Seq--
	case 1:
		c.Op = d.Intn(9) - 1
	case 2:
		c.From, c.To = c.From+d.Intn(4), c.To+d.Intn(4)
	case 3:
		c.Client += 3
	}
	return c
}

// world is n instances, all Done, of which, of two that meddle, at least one has the other in its Deps; they have other Deps among them, too, and few Seqs.
func (d dice) world(n int, cmd func() api.Cmd) []api.Inst {
	var l []api.Inst
	for i := range n {
		l = append(l, inst(ref(i%3, 1+i/3), cmd(), d.Intn(6)))
	}
	for i := range l {
		for j := range i {
			if blocks.Meddle(l[i].Cmd, l[j].Cmd) || d.Intn(12) == 0 {
				d.link(&l[i], &l[j])
			}
		}
	}
	d.Shuffle(n, func(i, j int) { l[i], l[j] = l[j], l[i] })
	return l
}

// link has one of the two need the other, now and then each.
func (d dice) link(a, b *api.Inst) {
	way := d.Intn(8)
	if way != 0 {
		a.Deps = append(a.Deps, b.Ref)
	}
	if way < 2 {
		b.Deps = append(b.Deps, a.Ref)
	}
}

// part is some of l as somebody may know them: shuffled, some of them not decided yet, with another order, or no command, and some twice.
func (d dice) part(l []api.Inst) []api.Inst {
	var p []api.Inst
	for _, x := range l {
		switch d.Intn(6) {
		case 0, 1:
		case 2:
			p = append(p, d.early(l, x))
		case 3:
			p = append(p, x, x)
		default:
			p = append(p, x)
		}
	}
	d.Shuffle(len(p), func(i, j int) { p[i], p[j] = p[j], p[i] })
	return p
}

// early is x as it was known ahead of its decision.
func (d dice) early(l []api.Inst, x api.Inst) api.Inst {
	x = as(d.Intn(3), x)
	x.Seq = d.Intn(6)
	x.Deps = nil
	for range d.Intn(3) {
		x.Deps = append(x.Deps, l[d.Intn(len(l))].Ref)
	}
	if x.Status == api.None {
		x.Cmd, x.Seq, x.Deps = api.Cmd{}, 0, nil
	}
	return x
}
