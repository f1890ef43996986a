package atlas_test

import (
	"bytes"
	"math"
	"math/rand"
	"slices"
	"testing"

	"lamella/api"
	"lamella/atlas"
)

// top is the number above which nothing is made any more.
const top = 1 << 30

func nodes(l ...int) []int { return l }

// dice are the same in each run.
func dice(seed int64) *rand.Rand { return rand.New(rand.NewSource(seed)) }

func one(from, to int) api.Span { return api.Span{From: from, To: to} }

func split(shard, at int) api.Change {
	return api.Change{Kind: api.ChangeSplit, Shard: shard, At: at}
}

func merge(shard, other int) api.Change {
	return api.Change{Kind: api.ChangeMerge, Shard: shard, Other: other}
}

func replace(shard, out, in int) api.Change {
	return api.Change{Kind: api.ChangeReplace, Shard: shard, Out: out, In: in}
}

func renew(shard int) api.Change { return api.Change{Kind: api.ChangeRenew, Shard: shard} }

func settle() api.Change { return api.Change{Kind: api.ChangeSettle} }

// was is a shard as later ones know it.
func was(id, from, to int, members ...int) api.Origin {
	return api.Origin{Id: id, Span: one(from, to), Members: members}
}

// part is a shard with these members and this past.
func part(id, from, to int, members []int, past ...api.Origin) api.Shard {
	return api.Shard{Id: id, Span: one(from, to), Members: members, Past: past}
}

// state is all that a map has, its shards rising by their blocks.
type state struct {
	blocks, epoch, next int
	open                []int
	shards              []api.Shard
}

// num lays a number by the words of P1.2.
func num(n int) []byte {
	b := []byte{byte(uint64(n) % 128)}
	for rest := uint64(n) / 128; rest > 0; rest /= 128 {
		b = append([]byte{byte(rest%128) + 128}, b...)
	}
	return b
}

// number lays one that may be negative.
func number(n int) []byte {
	if n < 0 {
		return append([]byte{1}, num(-1-n)...)
	}
	return append([]byte{0}, num(n)...)
}

func layOrigin(o api.Origin) []byte {
	b := slices.Concat(num(o.Id), num(o.Span.From), num(o.Span.To), num(len(o.Members)))
	for _, n := range o.Members {
		b = append(b, byte(n))
	}
	return b
}

// bytes is what Encode must tell.
func (s state) bytes() []byte {
	b := slices.Concat(num(s.blocks), num(s.epoch), num(s.next), num(len(s.open)))
	for _, id := range s.open {
		b = append(b, num(id)...)
	}
	b = append(b, num(len(s.shards))...)
	for _, x := range s.shards {
		b = append(b, layOrigin(was(x.Id, x.Span.From, x.Span.To, x.Members...))...)
		b = append(b, num(len(x.Past))...)
		for _, o := range x.Past {
			b = append(b, layOrigin(o)...)
		}
	}
	return b
}

func (s state) clone() state {
	s.open = slices.Clone(s.open)
	s.shards = slices.Clone(s.shards)
	for i, x := range s.shards {
		x.Members = slices.Clone(x.Members)
		x.Past = slices.Clone(x.Past)
		for k, o := range x.Past {
			x.Past[k].Members = slices.Clone(o.Members)
		}
		s.shards[i] = x
	}
	return s
}

// at is where the shard of a number stands; -1, if there is none.
func (s state) at(id int) int {
	return slices.IndexFunc(s.shards, func(x api.Shard) bool { return x.Id == id })
}

func sameOrigin(a, b api.Origin) bool {
	return a.Id == b.Id && a.Span == b.Span && slices.Equal(a.Members, b.Members)
}

func sameShard(a, b api.Shard) bool {
	return a.Id == b.Id && a.Span == b.Span && slices.Equal(a.Members, b.Members) && slices.EqualFunc(a.Past, b.Past, sameOrigin)
}

func isZero(s api.Shard) bool { return sameShard(s, api.Shard{}) }

// begun is a new map.
func begun(t *testing.T, blocks int, members ...int) *atlas.Atlas {
	t.Helper()
	a, e := atlas.New(blocks, members)
	if a == nil || e != api.OK {
		t.Fatalf("New(%d, %v): error %d", blocks, members, e)
	}
	return a
}

// first is what a new map has.
func first(blocks int, members ...int) state {
	return state{blocks, 1, 2, nil, []api.Shard{part(1, 0, blocks, members)}}
}

// loaded is the map that has this state.
func loaded(t *testing.T, s state) *atlas.Atlas {
	t.Helper()
	a, e := atlas.Decode(s.bytes())
	if a == nil || e != api.OK {
		t.Fatalf("Decode of %v: error %d", s, e)
	}
	return a
}

// does applies changes that the map must take.
func does(t *testing.T, a *atlas.Atlas, l ...api.Change) {
	t.Helper()
	for _, c := range l {
		if e := a.Apply(c); e != api.OK {
			t.Fatalf("Apply of %v: error %d", c, e)
		}
	}
}

// refuses applies a change that the map must not take, and by which nothing must change.
func refuses(t *testing.T, a *atlas.Atlas, c api.Change, want api.Errno) {
	t.Helper()
	ahead := a.Encode()
	if e := a.Apply(c); e != want {
		t.Errorf("Apply of %v: error %d, want %d", c, e, want)
	}
	if !bytes.Equal(a.Encode(), ahead) {
		t.Errorf("Apply of %v: the map has changed with the error %d", c, want)
	}
}

// is asks a map everything, and its bytes, and what comes back of them.
func is(t *testing.T, what string, a *atlas.Atlas, want state) {
	t.Helper()
	tells(t, what, a, want)
	b := a.Encode()
	if !bytes.Equal(b, want.bytes()) {
		t.Errorf("%s: the bytes are % x, want % x", what, b, want.bytes())
	}
	back, e := atlas.Decode(b)
	if e != api.OK || !atlas.Same(a, back) || !atlas.Same(back, a) {
		t.Fatalf("%s: the map doesn't come back: error %d", what, e)
	}
	tells(t, what+", come back", back, want)
}

func tells(t *testing.T, what string, a *atlas.Atlas, want state) {
	t.Helper()
	if a.Blocks() != want.blocks || a.Epoch() != want.epoch || a.Next() != want.next || !slices.Equal(a.Open(), want.open) {
		t.Errorf("%s: blocks %d, epoch %d, next %d, open %v, want %d, %d, %d, %v", what, a.Blocks(), a.Epoch(), a.Next(), a.Open(), want.blocks, want.epoch, want.next, want.open)
	}
	if l := a.Shards(); !slices.EqualFunc(l, want.shards, sameShard) {
		t.Errorf("%s: shards %v, want %v", what, l, want.shards)
	}
	for id := -1; id <= min(want.next+1, 600); id++ {
		asks(t, what, a, want, id)
	}
	for _, x := range want.shards {
		asks(t, what, a, want, x.Id)
	}
	finds(t, what, a, want)
}

// asks checks Get.
func asks(t *testing.T, what string, a *atlas.Atlas, want state, id int) {
	t.Helper()
	var x api.Shard
	i := want.at(id)
	if i >= 0 {
		x = want.shards[i]
	}
	if s, ok := a.Get(id); ok != (i >= 0) || !sameShard(s, x) {
		t.Errorf("%s: Get(%d): %v, %v, want %v", what, id, s, ok, x)
	}
}

// finds checks Find, of each block, and of some that there aren't.
func finds(t *testing.T, what string, a *atlas.Atlas, want state) {
	t.Helper()
	for _, x := range want.shards {
		for block := x.Span.From; block < x.Span.To; block++ {
			if s, ok := a.Find(block); !ok || !sameShard(s, x) {
				t.Errorf("%s: Find(%d): %v, %v, want %v", what, block, s, ok, x)
			}
		}
	}
	for _, block := range []int{-1, want.blocks, want.blocks + 1, math.MinInt, math.MaxInt} {
		if s, ok := a.Find(block); ok || !isZero(s) {
			t.Errorf("%s: Find(%d): %v, %v", what, block, s, ok)
		}
	}
}
