package warden_test

import (
	"math/rand"
	"slices"
	"testing"

	"lamella/api"
	"lamella/atlas"
	"lamella/octet"
	"lamella/warden"
)

// top is the greatest number of rules, and that up to which a map takes changes.
const top = 1 << 30

// dice are the same in each run.
func dice(seed int64) *rand.Rand { return rand.New(rand.NewSource(seed)) }

func nodes(l ...int) []int { return l }

func one(from, to int) api.Span { return api.Span{From: from, To: to} }

// part is a shard with these members.
func part(id, from, to int, members ...int) api.Shard {
	return api.Shard{Id: id, Span: one(from, to), Members: members}
}

func commands(shard, n int) api.Load { return api.Load{Shard: shard, Commands: n} }

func insts(shard, n int) api.Load { return api.Load{Shard: shard, Insts: n} }

func split(shard, at int) api.Change {
	return api.Change{Kind: api.ChangeSplit, Shard: shard, At: at}
}

func merge(shard, other int) api.Change {
	return api.Change{Kind: api.ChangeMerge, Shard: shard, Other: other}
}

func replace(shard, out, in int) api.Change {
	return api.Change{Kind: api.ChangeReplace, Shard: shard, Out: out, In: in}
}

func renew(shard int) api.Change { return api.Change{Kind: api.ChangeRenew, Shard: shard} }

// state is what a map has but the pasts of its shards, which rise by their blocks.
type state struct {
	epoch, next int
	open        []int
	shards      []api.Shard
}

// quiet is a map of the epoch 1, of these shards, where nothing is open.
func quiet(shards ...api.Shard) state {
	next := 2
	for _, s := range shards {
		next = max(next, s.Id+1)
	}
	return state{epoch: 1, next: next, shards: shards}
}

func num(w *octet.Writer, n int) { w.Num(uint64(n)) }

func layShard(w *octet.Writer, s api.Shard) {
	num(w, s.Id)
	num(w, s.Span.From)
	num(w, s.Span.To)
	var members []byte
	for _, n := range s.Members {
		members = append(members, byte(n))
	}
	w.Text(string(members))
	num(w, 0)
}

// loaded is the map that has this state, by the words of P11.4.
func loaded(t *testing.T, s state) *atlas.Atlas {
	t.Helper()
	w := &octet.Writer{}
	num(w, s.shards[len(s.shards)-1].Span.To)
	num(w, s.epoch)
	num(w, s.next)
	octet.Put(w, s.open, num)
	octet.Put(w, s.shards, layShard)
	a, e := atlas.Decode(w.Bytes())
	if e != api.OK {
		t.Fatalf("Decode of %v: error %d", s, e)
	}
	return a
}

// decides asks for a change, which must be this one, must not change the map, and must be one that it takes.
func decides(t *testing.T, a *atlas.Atlas, r api.Rules, loads []api.Load, live []int, want api.Change) {
	t.Helper()
	had := a.Clone()
	if c, ok := warden.Decide(a, r, loads, live); !ok || c != want {
		t.Errorf("by %+v, loads %v, live %v: %+v, %v, want %+v", r, loads, live, c, ok, want)
	}
	if !atlas.Same(a, had) {
		t.Errorf("by %+v: the map has changed", r)
	}
	if e := had.Apply(want); e != api.OK {
		t.Errorf("the map doesn't take %+v: error %d", want, e)
	}
}

// rests asks for a change where there is none.
func rests(t *testing.T, a *atlas.Atlas, r api.Rules, loads []api.Load, live []int) {
	t.Helper()
	if c, ok := warden.Decide(a, r, loads, live); ok || c != (api.Change{}) {
		t.Errorf("by %+v, loads %v, live %v: %+v, %v, want none", r, loads, live, c, ok)
	}
}

// drawnMembers are an odd number of the first so many nodes.
func drawnMembers(d *rand.Rand, among int) []int {
	l := d.Perm(among)[:1+2*d.Intn((among+1)/2)]
	slices.Sort(l)
	return l
}

// drawnMap has some shards, of numbers in any order, of few different members.
func drawnMap(d *rand.Rand) state {
	few := [][]int{drawnMembers(d, api.MaxNodes), drawnMembers(d, api.MaxNodes), drawnMembers(d, 3)}
	ids := d.Perm(12)
	s := state{epoch: 1 + d.Intn(4), next: 13}
	from := 0
	for i := range 1 + d.Intn(6) {
		to := from + 1 + d.Intn(4)
		s.shards = append(s.shards, part(1+ids[i], from, to, few[d.Intn(len(few))]...))
		from = to
	}
	return s
}

// drawnRules are such that each of them often is, and often isn't.
func drawnRules(d *rand.Rand) api.Rules {
	n := func() int { return d.Intn(2) * d.Intn(12) }
	return api.Rules{Hot: n(), Cold: n(), Long: n(), Mute: n(), Cap: 1 + d.Intn(6)}
}

// drawnLoads are of some of the shards, of some twice, and of some that there aren't.
func drawnLoads(d *rand.Rand) []api.Load {
	var l []api.Load
	for range d.Intn(16) {
		l = append(l, api.Load{Shard: d.Intn(15), Commands: d.Intn(14), Insts: d.Intn(9), Mid: d.Intn(24) - 2})
	}
	return l
}

// drawnNodes are in any order, some twice, and some are none.
func drawnNodes(d *rand.Rand) []int {
	var l []int
	for range d.Intn(2 * api.MaxNodes) {
		l = append(l, d.Intn(api.MaxNodes+2)-1)
	}
	return l
}
