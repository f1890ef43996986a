package insts_test

import (
	"math/rand"
	"slices"
	"testing"

	"lamella/api"
	"lamella/insts"
	"lamella/octet"
)

func ref(lead, index int) api.Ref { return api.Ref{Lead: lead, Index: index} }

// refs is a list of Refs as it may be written by hand.
func refs(l ...api.Ref) []api.Ref { return l }

func ballot(n, node int) api.Ballot { return api.Ballot{N: n, Node: node} }

func write(client, seq, from int, texts ...string) api.Cmd {
	return api.Cmd{Op: api.OpWrite, Client: client, Seq: seq, From: from, To: from + len(texts), Data: texts}
}

// command is one that has no texts.
func command(op, client, seq, from, to int) api.Cmd {
	return api.Cmd{Op: op, Client: client, Seq: seq, From: from, To: to}
}

func read(client, from, to int) api.Cmd { return command(api.OpRead, client, 1, from, to) }

// seen is an instance of which nothing but its command and its order matters.
func seen(r api.Ref, c api.Cmd, seq int, deps ...api.Ref) api.Inst {
	return api.Inst{Ref: r, Status: api.Seen, Cmd: c, Seq: seq, Deps: deps}
}

// rich is an instance that may be, none of whose fields is zero.
func rich() api.Inst {
	return api.Inst{
		Ref: ref(2, 300), Ballot: ballot(5, 3), Vote: ballot(4, 6), Status: api.Taken, Same: true,
		Cmd: write(1, 200, 7, "a", "b"), Seq: 1 << 20, Deps: refs(ref(0, 9), ref(2, 1), ref(2, 300), ref(6, 1)),
	}
}

// changed is x with lists of its own, and one thing changed.
func changed(x api.Inst, change func(*api.Inst)) api.Inst {
	x.Cmd.Data = slices.Clone(x.Cmd.Data)
	x.Deps = slices.Clone(x.Deps)
	change(&x)
	return x
}

// alike is Same by a rule of the tests' own.
func alike(a, b api.Inst) bool {
	c, d := a.Cmd, b.Cmd
	numbers := func(x api.Inst) [13]int {
		return [13]int{x.Ref.Lead, x.Ref.Index, x.Ballot.N, x.Ballot.Node, x.Vote.N, x.Vote.Node, x.Status, x.Seq,
			x.Cmd.Op, x.Cmd.Client, x.Cmd.Seq, x.Cmd.From, x.Cmd.To}
	}
	return numbers(a) == numbers(b) && a.Same == b.Same && slices.Equal(c.Data, d.Data) && slices.Equal(a.Deps, b.Deps)
}

// rows is many Refs, rising.
func rows(n int) []api.Ref {
	var l []api.Ref
	for i := range n {
		l = append(l, ref(i*7/n, i+1))
	}
	return l
}

// puts puts what must be taken.
func puts(t *testing.T, table *insts.Table, l ...api.Inst) {
	t.Helper()
	for _, x := range l {
		if e := table.Put(x); e != api.OK {
			t.Fatalf("Put of %v: error %d", x.Ref, e)
		}
	}
}

// refuses checks a Put that does nothing.
func refuses(t *testing.T, what string, table *insts.Table, x api.Inst, want api.Errno) {
	t.Helper()
	was := all(table)
	if e := table.Put(x); e != want {
		t.Errorf("%s: error %d, want %d", what, e, want)
	}
	if !slices.EqualFunc(all(table), was, alike) {
		t.Errorf("%s: refused, and yet the table has changed", what)
	}
}

// all is what a loop over the table goes through.
func all(table *insts.Table) []api.Inst {
	var l []api.Inst
	for x := range table.Each() {
		l = append(l, x)
	}
	return l
}

// has checks all that a table tells of what is in it, which is told by rising Refs.
func has(t *testing.T, what string, table *insts.Table, want ...api.Inst) {
	t.Helper()
	if got := all(table); !slices.EqualFunc(got, want, alike) {
		t.Errorf("%s: a loop goes over %v, not %v", what, got, want)
	}
	if table.Len() != len(want) {
		t.Errorf("%s: Len is %d, not %d", what, table.Len(), len(want))
	}
	next := map[int]int{}
	for _, x := range want {
		if got, in := table.Get(x.Ref); !in || !alike(got, x) {
			t.Errorf("%s: Get of %v is %v, %v, not %v", what, x.Ref, got, in, x)
		}
		next[x.Ref.Lead] = x.Ref.Index
	}
	for lead := -1; lead <= 7; lead++ {
		if got := table.Next(lead); got != next[lead]+1 {
			t.Errorf("%s: Next of %d is %d, not %d", what, lead, got, next[lead]+1)
		}
	}
}

// orders asks for an order, and says if it is another one.
func orders(t *testing.T, what string, table *insts.Table, c api.Cmd, self api.Ref, seq int, deps ...api.Ref) {
	t.Helper()
	s, d := table.Order(c, self)
	if s != seq || !slices.Equal(d, deps) {
		t.Errorf("%s: Order is %d, %v, not %d, %v", what, s, d, seq, deps)
	}
}

func lay(x api.Inst) []byte {
	w := &octet.Writer{}
	insts.Lay(w, x)
	return w.Bytes()
}

// laidNum is a Num by the words of P1.2.
func laidNum(n uint64) []byte {
	l := []byte{byte(n % 128)}
	for n /= 128; n > 0; n /= 128 {
		l = append(l, byte(n%128)+128)
	}
	slices.Reverse(l)
	return l
}

// laidInt is an Int by the words of P1.2.
func laidInt(n int) []byte {
	if n < 0 {
		return append([]byte{1}, laidNum(uint64(-1-n))...)
	}
	return append([]byte{0}, laidNum(uint64(n))...)
}

// laidCmd is a command by the words of P5.6.
func laidCmd(c api.Cmd) []byte {
	b := slices.Concat([]byte{byte(c.Op)}, laidInt(c.Client), laidInt(c.Seq), laidInt(c.From), laidInt(c.To), laidNum(uint64(len(c.Data))))
	for _, s := range c.Data {
		b = slices.Concat(b, laidNum(uint64(len(s))), []byte(s))
	}
	return b
}

// laid is an instance by the words of P7.2.
func laid(x api.Inst) []byte {
	same := byte(0)
	if x.Same {
		same = 1
	}
	b := slices.Concat(
		laidInt(x.Ref.Lead), laidInt(x.Ref.Index), laidInt(x.Ballot.N), laidInt(x.Ballot.Node), laidInt(x.Vote.N), laidInt(x.Vote.Node), laidInt(x.Status),
		[]byte{same}, laidCmd(x.Cmd), laidInt(x.Seq), laidNum(uint64(len(x.Deps))))
	for _, r := range x.Deps {
		b = slices.Concat(b, laidInt(r.Lead), laidInt(r.Index))
	}
	return b
}

// roomy is l with others behind it that nobody may touch, and whether they, and l, are still as they were.
func roomy[T comparable](l []T, others ...T) (arg []T, untouched func() bool) {
	all := slices.Concat(l, others)
	was := slices.Clone(all)
	return all[:len(l)], func() bool { return slices.Equal(all, was) }
}

// dice are the same in each run.
type dice struct{ *rand.Rand }

func newDice() dice { return dice{rand.New(rand.NewSource(7))} }

// ref is one of a few.
func (d dice) ref() api.Ref { return ref(d.Intn(3), 1+d.Intn(6)) }

// cmd is one of all kinds, that may be, on few blocks.
func (d dice) cmd() api.Cmd {
	from := d.Intn(8)
	to := from + 1 + d.Intn(3)
	switch op := d.Intn(6); op {
	case api.OpNone, api.OpFreeze:
		if d.Intn(4) > 0 {
			return api.Cmd{}
		}
		return api.Cmd{Op: op}
	case api.OpWrite:
		return write(d.Intn(4), 1+d.Intn(9), from, slices.Repeat([]string{"x"}, to-from)...)
	default:
		return command(op, d.Intn(4), 1+d.Intn(9), from, to)
	}
}

// inst is one that may be, of few Refs; some of them are known by a ballot alone.
func (d dice) inst() api.Inst {
	x := api.Inst{Ref: d.ref(), Ballot: ballot(d.Intn(3), d.Intn(7))}
	if d.Intn(5) == 0 {
		return x
	}
	x.Status = 1 + d.Intn(3)
	x.Cmd = d.cmd()
	x.Seq = d.Intn(5)
	x.Deps = rows(d.Intn(4))
	return x
}

// table is some instances, and a table of them.
func (d dice) table(t *testing.T, n int) (*insts.Table, map[api.Ref]api.Inst) {
	t.Helper()
	table, model := insts.New(), map[api.Ref]api.Inst{}
	for range d.Intn(n + 1) {
		x := d.inst()
		puts(t, table, x)
		model[x.Ref] = x
	}
	return table, model
}

// rising is the model's instances by rising Refs, each put where it belongs.
func rising(model map[api.Ref]api.Inst) []api.Inst {
	var l []api.Inst
	for _, x := range model {
		at := 0
		for at < len(l) && lesser(l[at].Ref, x.Ref) {
			at++
		}
		l = slices.Insert(l, at, x)
	}
	return l
}

// lesser is graph's Less by a rule of the tests' own.
func lesser(a, b api.Ref) bool {
	if a.Lead != b.Lead {
		return a.Lead < b.Lead
	}
	return a.Index < b.Index
}
