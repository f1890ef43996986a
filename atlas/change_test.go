package atlas_test

import (
	"math"
	"math/rand"
	"slices"
	"testing"

	"lamella/api"
	"lamella/atlas"
)

// example 1
func TestExample(t *testing.T) {
	a := begun(t, 10, 0, 1, 2)
	does(t, a, split(1, 4))
	past := was(1, 0, 10, 0, 1, 2)
	halves := []api.Shard{part(2, 0, 4, nodes(0, 1, 2), past), part(3, 4, 10, nodes(0, 1, 2), past)}
	is(t, "split", a, state{10, 2, 4, nodes(2, 3), halves})
	refuses(t, a, split(2, 1), api.ErrDown)
	does(t, a, settle())
	is(t, "settled", a, state{10, 2, 4, nil, halves})
	does(t, a, merge(2, 3))
	is(t, "merged", a, state{10, 3, 5, nodes(4), []api.Shard{part(4, 0, 10, nodes(0, 1, 2), was(2, 0, 4, 0, 1, 2), was(3, 4, 10, 0, 1, 2))}})
}

// P11.3: Kinds that there aren't, and fields that a Kind doesn't name.
func TestApplyOfWrongChanges(t *testing.T) {
	a := begun(t, 10, 0, 1, 2)
	does(t, a, split(1, 4), settle())
	open := a.Clone()
	does(t, open, renew(2))
	for _, kind := range []int{0, -1, 6, 7, 100, math.MinInt, math.MaxInt} {
		for _, c := range []api.Change{{Kind: kind}, {Kind: kind, Shard: 2, At: 2}} {
			refuses(t, a, c, api.ErrArg)
			refuses(t, open, c, api.ErrArg)
		}
	}
	names := map[int]string{api.ChangeSplit: "SA", api.ChangeMerge: "SO", api.ChangeReplace: "SXI", api.ChangeRenew: "S", api.ChangeSettle: ""}
	good := map[int]api.Change{1: split(2, 2), 2: merge(2, 3), 3: replace(2, 1, 4), 4: renew(2), 5: settle()}
	for kind, c := range good {
		for _, field := range "SOAXI" {
			if slices.Contains([]rune(names[kind]), field) {
				continue
			}
			for _, n := range []int{1, 2, -1, math.MinInt, math.MaxInt} {
				x := c
				switch field {
				case 'S':
					x.Shard = n
				case 'O':
					x.Other = n
				case 'A':
					x.At = n
				case 'X':
					x.Out = n
				case 'I':
					x.In = n
				}
				refuses(t, a, x, api.ErrArg)
				refuses(t, open, x, api.ErrArg)
			}
		}
		if e := a.Clone().Apply(c); kind != api.ChangeSettle && e != api.OK {
			t.Errorf("%v: error %d", c, e)
		}
	}
}

// P11.3: ErrArg of a field goes ahead of all, ErrDown ahead of what follows it.
func TestWhichErrorIsTold(t *testing.T) {
	a := begun(t, 10, 0, 1, 2)
	does(t, a, split(1, 4))
	for _, c := range []api.Change{split(9, 1), split(2, 0), split(2, 99), merge(9, 2), merge(2, 9), merge(3, 2), replace(2, 5, 6), replace(2, 0, 1), replace(9, 0, 1), renew(9), renew(0), renew(2)} {
		refuses(t, a, c, api.ErrDown)
	}
	refuses(t, a, api.Change{Kind: api.ChangeRenew, Shard: 9, In: 1}, api.ErrArg)
	does(t, a, settle())
	refuses(t, a, settle(), api.ErrNone)
	refuses(t, a, api.Change{Kind: api.ChangeSettle, Shard: 1}, api.ErrArg)
	for _, id := range []int{0, 1, 4, 5, -1, math.MinInt, math.MaxInt} {
		refuses(t, a, split(id, 99), api.ErrNone)
		refuses(t, a, split(id, 2), api.ErrNone)
		refuses(t, a, merge(id, 3), api.ErrNone)
		refuses(t, a, merge(2, id), api.ErrNone)
		refuses(t, a, merge(id, id), api.ErrNone)
		refuses(t, a, replace(id, 0, 3), api.ErrNone)
		refuses(t, a, replace(id, 9, 9), api.ErrNone)
		refuses(t, a, renew(id), api.ErrNone)
	}
}

// P11.3: Split.
func TestSplit(t *testing.T) {
	a := begun(t, 10, 1, 3, 5)
	for _, at := range []int{0, -1, 10, 11, math.MinInt, math.MaxInt} {
		refuses(t, a, split(1, at), api.ErrArg)
	}
	for at := 1; at < 10; at++ {
		b := a.Clone()
		does(t, b, split(1, at))
		past := was(1, 0, 10, 1, 3, 5)
		is(t, "split", b, state{10, 2, 4, nodes(2, 3), []api.Shard{part(2, 0, at, nodes(1, 3, 5), past), part(3, at, 10, nodes(1, 3, 5), past)}})
	}
	does(t, a, split(1, 4), settle())
	for _, at := range []int{0, 3, 4, 10} {
		refuses(t, a, split(3, at), api.ErrArg)
	}
	does(t, a, split(3, 9), settle())
	refuses(t, a, split(5, 9), api.ErrArg) // it has one block
	refuses(t, a, split(5, 10), api.ErrArg)
	refuses(t, begun(t, 1, 0), split(1, 0), api.ErrArg)
	refuses(t, begun(t, 1, 0), split(1, 1), api.ErrArg)
}

// P11.3: a disk of all blocks, split till each block has a shard of its own, and merged again.
func TestSplitOfEachBlock(t *testing.T) {
	a := begun(t, api.MaxBlocks, 0, 1, 2)
	for block := 1; block < api.MaxBlocks; block++ {
		s, _ := a.Find(block)
		does(t, a, split(s.Id, block), settle())
	}
	if l := a.Shards(); len(l) != api.MaxBlocks || a.Epoch() != api.MaxBlocks {
		t.Errorf("%d shards, epoch %d", len(l), a.Epoch())
	}
	if b, e := atlas.Decode(a.Encode()); e != api.OK || !atlas.Same(a, b) {
		t.Errorf("the map doesn't come back: error %d", e)
	}
	for len(a.Shards()) > 1 {
		l := a.Shards()
		does(t, a, merge(l[0].Id, l[1].Id), settle())
	}
	if s, ok := a.Find(api.MaxBlocks - 1); !ok || s.Span != one(0, api.MaxBlocks) || s.Id != a.Next()-1 {
		t.Errorf("%v", s)
	}
}

// P11.3: Merge.
func TestMerge(t *testing.T) {
	s := state{10, 7, 9, nil, []api.Shard{part(8, 0, 3, nodes(4)), part(2, 3, 4, nodes(0, 1, 2), was(1, 3, 9, 6)), part(5, 4, 10, nodes(0, 2, 6))}}
	a := loaded(t, s)
	for _, c := range []api.Change{merge(2, 8), merge(5, 2), merge(8, 5), merge(5, 8), merge(8, 8), merge(2, 2)} {
		refuses(t, a, c, api.ErrArg)
	}
	b := a.Clone()
	does(t, b, merge(8, 2)) // the members are those of the one ahead
	is(t, "the first two", b, state{10, 8, 10, nodes(9), []api.Shard{part(9, 0, 4, nodes(4), was(8, 0, 3, 4), was(2, 3, 4, 0, 1, 2)), s.shards[2]}})
	does(t, a, merge(2, 5))
	is(t, "the last two", a, state{10, 8, 10, nodes(9), []api.Shard{s.shards[0], part(9, 3, 10, nodes(0, 1, 2), was(2, 3, 4, 0, 1, 2), was(5, 4, 10, 0, 2, 6))}})
}

// P11.3: Replace. The members go on rising.
func TestReplace(t *testing.T) {
	a := begun(t, 10, 1, 3, 5)
	for _, c := range []api.Change{
		replace(1, 0, 2), replace(1, 6, 2), replace(1, -1, 2), replace(1, 7, 2), replace(1, math.MinInt, 2), replace(1, math.MaxInt, 2), // no member goes
		replace(1, 1, 1), replace(1, 1, 3), replace(1, 5, 3), // a member comes
		replace(1, 1, -1), replace(1, 1, 7), replace(1, 1, math.MinInt), replace(1, 1, math.MaxInt), // no node comes
		replace(1, 0, 0), replace(1, 2, 7),
	} {
		refuses(t, a, c, api.ErrArg)
	}
	for _, c := range []struct {
		out, in int
		want    []int
	}{
		{1, 0, nodes(0, 3, 5)}, {1, 2, nodes(2, 3, 5)}, {1, 4, nodes(3, 4, 5)}, {1, 6, nodes(3, 5, 6)},
		{3, 0, nodes(0, 1, 5)}, {3, 2, nodes(1, 2, 5)}, {3, 6, nodes(1, 5, 6)},
		{5, 0, nodes(0, 1, 3)}, {5, 2, nodes(1, 2, 3)}, {5, 6, nodes(1, 3, 6)},
	} {
		b := a.Clone()
		does(t, b, replace(1, c.out, c.in))
		is(t, "replaced", b, state{10, 2, 3, nodes(2), []api.Shard{part(2, 0, 10, c.want, was(1, 0, 10, 1, 3, 5))}})
	}
	b := begun(t, 1, 0)
	does(t, b, replace(1, 0, 6), settle(), replace(2, 6, 0))
	is(t, "and back", b, state{1, 3, 4, nodes(3), []api.Shard{part(3, 0, 1, nodes(0), was(2, 0, 1, 6))}})
}

// P11.3: Renew: the same blocks, the same members, another number.
func TestRenew(t *testing.T) {
	a := begun(t, 10, 1, 3, 5)
	does(t, a, split(1, 4), settle(), renew(2))
	right := part(3, 4, 10, nodes(1, 3, 5), was(1, 0, 10, 1, 3, 5))
	is(t, "renewed", a, state{10, 3, 5, nodes(4), []api.Shard{part(4, 0, 4, nodes(1, 3, 5), was(2, 0, 4, 1, 3, 5)), right}})
	refuses(t, a, renew(3), api.ErrDown)
	does(t, a, settle())
	refuses(t, a, renew(2), api.ErrNone)
	is(t, "settled", a, state{10, 3, 5, nil, []api.Shard{part(4, 0, 4, nodes(1, 3, 5), was(2, 0, 4, 1, 3, 5)), right}})
}

// P11.3: at 2^30 a change is made, above nothing is any more.
func TestApplyAtTheTop(t *testing.T) {
	two := func(epoch, next int, open ...int) state {
		return state{10, epoch, next, open, []api.Shard{part(1, 0, 4, nodes(0)), part(2, 4, 10, nodes(0))}}
	}
	for _, c := range []api.Change{split(1, 2), merge(1, 2), replace(1, 0, 3), renew(2)} {
		for _, n := range []int{1, 2} {
			refuses(t, loaded(t, two(5, top+n)), c, api.ErrBig)
			refuses(t, loaded(t, two(top+n, 5)), c, api.ErrBig)
			refuses(t, loaded(t, two(top+n, top+n)), c, api.ErrBig)
			refuses(t, loaded(t, two(top+n, top+n, 1)), c, api.ErrDown)
		}
		a := loaded(t, two(top, top))
		does(t, a, c)
		if a.Epoch() != top+1 || a.Next() != top+len(a.Open()) || a.Open()[0] != top {
			t.Errorf("%v: epoch %d, next %d, open %v", c, a.Epoch(), a.Next(), a.Open())
		}
		if b, e := atlas.Decode(a.Encode()); e != api.OK || !atlas.Same(a, b) {
			t.Errorf("%v: the map doesn't come back: error %d", c, e)
		}
		does(t, a, settle())
		refuses(t, a, renew(top), api.ErrBig)
	}
	a := loaded(t, two(top+2, top+2))
	for _, c := range []api.Change{split(1, 4), merge(2, 1), replace(1, 1, 3), replace(1, 0, 7)} {
		refuses(t, a, c, api.ErrArg)
	}
	refuses(t, a, renew(3), api.ErrNone)
	refuses(t, a, settle(), api.ErrNone)
	does(t, loaded(t, two(top+2, top+2, 1, 2)), settle())
}

// nameless: does c name a field that its Kind hasn't?
func nameless(c api.Change) bool {
	switch c.Kind {
	case api.ChangeSplit:
		return c.Other != 0 || c.Out != 0 || c.In != 0
	case api.ChangeMerge:
		return c.At != 0 || c.Out != 0 || c.In != 0
	case api.ChangeReplace:
		return c.Other != 0 || c.At != 0
	case api.ChangeRenew:
		return c.Other != 0 || c.At != 0 || c.Out != 0 || c.In != 0
	case api.ChangeSettle:
		return c.Shard != 0 || c.Other != 0 || c.At != 0 || c.Out != 0 || c.In != 0
	}
	return true
}

// after is what P11.3 says of a change, word by word: the state behind it, and its error.
func after(s state, c api.Change) (state, api.Errno) {
	if nameless(c) {
		return s, api.ErrArg
	}
	if c.Kind == api.ChangeSettle {
		if len(s.open) == 0 {
			return s, api.ErrNone
		}
		s.open = nil
		return s, api.OK
	}
	if len(s.open) > 0 {
		return s, api.ErrDown
	}
	i, k := s.at(c.Shard), s.at(c.Other)
	if i < 0 || c.Kind == api.ChangeMerge && k < 0 {
		return s, api.ErrNone
	}
	x := s.shards[i]
	past := []api.Origin{was(x.Id, x.Span.From, x.Span.To, x.Members...)}
	anew := []api.Shard{part(s.next, x.Span.From, x.Span.To, x.Members)}
	last := i
	switch c.Kind {
	case api.ChangeSplit:
		if c.At <= x.Span.From || c.At >= x.Span.To {
			return s, api.ErrArg
		}
		anew = []api.Shard{part(s.next, x.Span.From, c.At, x.Members), part(s.next+1, c.At, x.Span.To, x.Members)}
	case api.ChangeMerge:
		y := s.shards[k]
		if y.Span.From != x.Span.To {
			return s, api.ErrArg
		}
		past = append(past, was(y.Id, y.Span.From, y.Span.To, y.Members...))
		anew[0].Span.To = y.Span.To
		last = k
	case api.ChangeReplace:
		if !slices.Contains(x.Members, c.Out) || slices.Contains(x.Members, c.In) || c.In < 0 || c.In > 6 {
			return s, api.ErrArg
		}
		var members []int
		for n := range 7 {
			if n == c.In || n != c.Out && slices.Contains(x.Members, n) {
				members = append(members, n)
			}
		}
		anew[0].Members = members
	}
	if s.next > top || s.epoch > top {
		return s, api.ErrBig
	}
	s = s.clone()
	for j := range anew {
		anew[j].Past = past
		s.open = append(s.open, anew[j].Id)
	}
	s.shards = slices.Replace(s.shards, i, last+1, anew...)
	s.next += len(anew)
	s.epoch++
	return s, api.OK
}

// drawnChange is one of which most can be done.
func drawnChange(d *rand.Rand, s state) api.Change {
	i := d.Intn(len(s.shards))
	x := s.shards[i]
	other := s.shards[min(i+1, len(s.shards)-1)].Id
	c := settle()
	switch d.Intn(6) {
	case 0, 1:
		c = split(x.Id, x.Span.From+d.Intn(x.Span.To-x.Span.From+1))
	case 2:
		c = merge(x.Id, other)
	case 3:
		c = replace(x.Id, x.Members[d.Intn(len(x.Members))], d.Intn(8))
	case 4:
		c = renew(x.Id)
	}
	if d.Intn(8) == 0 {
		fields := []*int{&c.Kind, &c.Shard, &c.Other, &c.At, &c.Out, &c.In}
		*fields[d.Intn(6)] = []int{-1, 0, 1, 2, 3, 6, 7, s.next, d.Intn(s.next), math.MaxInt}[d.Intn(10)]
	}
	return c
}

// drawnMembers are so many that they are members.
func drawnMembers(d *rand.Rand) []int {
	l := d.Perm(7)[:1+2*d.Intn(4)]
	slices.Sort(l)
	return l
}

// grown is a map behind some drawn changes, and its state.
func grown(t *testing.T, d *rand.Rand, changes int) (*atlas.Atlas, state) {
	t.Helper()
	blocks, members := 1+d.Intn(60), drawnMembers(d)
	a, s := begun(t, blocks, members...), first(blocks, members...)
	for range changes {
		c := drawnChange(d, s)
		var want api.Errno
		s, want = after(s, c)
		if e := a.Apply(c); e != want {
			t.Fatalf("Apply of %v on %v: error %d, want %d", c, s, e, want)
		}
	}
	return a, s
}

// P11.3, P11.6 to P11.8, by drawn changes.
func TestDrawnChanges(t *testing.T) {
	d := dice(1)
	done := map[int]int{}
	for range 60 {
		blocks, members := 1+d.Intn(40), drawnMembers(d)
		a, s := begun(t, blocks, members...), first(blocks, members...)
		given := map[int]bool{1: true}
		for range 60 {
			c := drawnChange(d, s)
			ahead := a.Clone()
			e := a.Apply(c)
			next, want := after(s, c)
			if e != want {
				t.Fatalf("Apply of %v on %v: error %d, want %d", c, s, e, want)
			}
			is(t, "behind the change", a, next)
			is(t, "ahead of the change", ahead, s)
			if e == api.OK {
				done[c.Kind]++
				follows(t, ahead, a, c, given)
			}
			s = next
		}
	}
	for kind := api.ChangeSplit; kind <= api.ChangeSettle; kind++ {
		if done[kind] < 50 {
			t.Errorf("only %d changes of the kind %d were done", done[kind], kind)
		}
	}
}

// follows checks what follows for a change that was done: P11.6 to P11.8.
func follows(t *testing.T, ahead, behind *atlas.Atlas, c api.Change, given map[int]bool) {
	t.Helper()
	end := 0
	for _, s := range behind.Shards() {
		if s.Span.From != end || s.Span.To <= end || !atlas.IsMembers(s.Members) {
			t.Errorf("%v: the shards %v don't have all blocks, each one", c, behind.Shards())
		}
		end = s.Span.To
	}
	if end != ahead.Blocks() {
		t.Errorf("%v: the shards end at %d", c, end)
	}
	for block := range ahead.Blocks() {
		x, _ := ahead.Find(block)
		y, _ := behind.Find(block)
		isNamed := c.Kind != api.ChangeSettle && (x.Id == c.Shard || c.Kind == api.ChangeMerge && x.Id == c.Other)
		if isNamed == sameShard(x, y) {
			t.Errorf("%v: block %d was in %v and is in %v", c, block, x, y)
		}
	}
	if c.Kind != api.ChangeSettle {
		for _, id := range behind.Open() {
			hasPast(t, ahead, behind, id, given)
		}
	}
}

// hasPast checks a new shard: its Past stood in the map ahead, and have all its blocks; its number is new.
func hasPast(t *testing.T, ahead, behind *atlas.Atlas, id int, given map[int]bool) {
	t.Helper()
	s, ok := behind.Get(id)
	if !ok || given[id] {
		t.Errorf("the number %d is given twice, or to none", id)
	}
	given[id] = true
	for block := s.Span.From; block < s.Span.To; block++ {
		has := func(o api.Origin) bool { return o.Span.From <= block && block < o.Span.To }
		if !slices.ContainsFunc(s.Past, has) {
			t.Errorf("%v: its Past don't have the block %d", s, block)
		}
	}
	for _, o := range s.Past {
		if x, ok := ahead.Get(o.Id); !ok || !sameOrigin(o, was(x.Id, x.Span.From, x.Span.To, x.Members...)) {
			t.Errorf("%v: its Past %v wasn't in the map ahead", s, o)
		}
	}
}
