package atlas_test

import (
	"bytes"
	"math"
	"slices"
	"testing"

	"lamella/api"
	"lamella/atlas"
)

// P11.1
func TestIsMembers(t *testing.T) {
	for _, l := range [][]int{
		{0}, {3}, {6}, {0, 1, 2}, {0, 3, 6}, {4, 5, 6}, {0, 1, 2, 3, 4}, {1, 2, 4, 5, 6}, {0, 1, 2, 3, 4, 5, 6},
	} {
		if !atlas.IsMembers(l) {
			t.Errorf("%v aren't members", l)
		}
	}
	for _, l := range [][]int{
		nil, {}, {0, 1}, {0, 1, 2, 3}, {0, 1, 2, 3, 4, 5}, // an even number
		{-1}, {7}, {-1, 0, 1}, {5, 6, 7}, {math.MinInt}, {math.MaxInt}, {0, 1, math.MaxInt}, // no nodes
		{1, 0, 2}, {0, 2, 1}, {2, 1, 0}, {0, 0, 1}, {0, 1, 1}, {3, 3, 3}, // not rising
		{0, 1, 2, 3, 4, 5, 6, 6, 6}, {0, 1, 2, 3, 4, 5, 6, 7, 8},
	} {
		if atlas.IsMembers(l) {
			t.Errorf("%v are members", l)
		}
	}
}

// P11.1, by all rows of up to three of the numbers from -1 to 7.
func TestIsMembersOfEachRow(t *testing.T) {
	isNode := func(n int) bool { return n >= 0 && n <= 6 }
	for a := -1; a <= 7; a++ {
		if atlas.IsMembers(nodes(a)) != isNode(a) {
			t.Error(a)
		}
		for b := -1; b <= 7; b++ {
			if atlas.IsMembers(nodes(a, b)) {
				t.Error(a, b)
			}
			for c := -1; c <= 7; c++ {
				if atlas.IsMembers(nodes(a, b, c)) != (isNode(a) && isNode(c) && a < b && b < c) {
					t.Error(a, b, c)
				}
			}
		}
	}
}

// P11.2
func TestNew(t *testing.T) {
	for _, blocks := range []int{1, 2, 10, 255, api.MaxBlocks} {
		for _, members := range [][]int{{0}, {6}, {0, 1, 2}, {1, 3, 6}, {0, 1, 2, 3, 4, 5, 6}} {
			is(t, "a new one", begun(t, blocks, members...), first(blocks, members...))
		}
	}
}

// P11.2
func TestNewOfWrongThings(t *testing.T) {
	for _, c := range []struct {
		blocks  int
		members []int
	}{
		{0, nodes(0)}, {-1, nodes(0)}, {math.MinInt, nodes(0)}, {api.MaxBlocks + 1, nodes(0)}, {math.MaxInt, nodes(0)},
		{10, nil}, {10, nodes()}, {10, nodes(0, 1)}, {10, nodes(7)}, {10, nodes(-1)}, {10, nodes(1, 0, 2)}, {10, nodes(0, 0, 1)},
		{0, nil},
	} {
		if a, e := atlas.New(c.blocks, c.members); a != nil || e != api.ErrArg {
			t.Errorf("New(%d, %v): %v, error %d", c.blocks, c.members, a, e)
		}
	}
}

// P11.2: where a block is.
func TestFindAtTheEndsOfShards(t *testing.T) {
	a := begun(t, 10, 0, 1, 2)
	does(t, a, split(1, 4))
	for _, c := range []struct {
		block, id int
	}{{0, 2}, {3, 2}, {4, 3}, {9, 3}} {
		if s, ok := a.Find(c.block); !ok || s.Id != c.id {
			t.Errorf("Find(%d): %v, %v", c.block, s, ok)
		}
	}
}

// P11.2: Pieces are cut where a shard ends, and else by sixteen, from where the span begins in the shard.
func TestPieces(t *testing.T) {
	a := begun(t, 100, 0)
	does(t, a, split(1, 20), settle(), split(3, 21), settle()) // {0, 20}, {20, 21}, {21, 100}
	for _, c := range []struct {
		s    api.Span
		want []api.Span
	}{
		{one(0, 1), []api.Span{one(0, 1)}},
		{one(0, 16), []api.Span{one(0, 16)}},
		{one(0, 17), []api.Span{one(0, 16), one(16, 17)}},
		{one(3, 20), []api.Span{one(3, 19), one(19, 20)}},
		{one(18, 20), []api.Span{one(18, 20)}},
		{one(19, 22), []api.Span{one(19, 20), one(20, 21), one(21, 22)}},
		{one(20, 21), []api.Span{one(20, 21)}},
		{one(21, 60), []api.Span{one(21, 37), one(37, 53), one(53, 60)}},
		{one(30, 60), []api.Span{one(30, 46), one(46, 60)}},
		{one(95, 200), []api.Span{one(95, 100)}},
		{one(-50, 2), []api.Span{one(0, 2)}},
		{one(math.MinInt, 2), []api.Span{one(0, 2)}},
		{one(99, math.MaxInt), []api.Span{one(99, 100)}},
		{one(math.MinInt, math.MaxInt), []api.Span{one(0, 16), one(16, 20), one(20, 21), one(21, 37), one(37, 53), one(53, 69), one(69, 85), one(85, 100)}},
		{one(5, 5), nil}, {one(20, 20), nil}, {one(9, 5), nil}, {one(100, 120), nil}, {one(-9, 0), nil}, {one(math.MaxInt, math.MinInt), nil}, {api.Span{}, nil},
	} {
		if l := a.Pieces(c.s); !slices.Equal(l, c.want) {
			t.Errorf("Pieces(%v): %v, want %v", c.s, l, c.want)
		}
	}
}

// P11.2: of any span, the pieces are its blocks that there are, each within one shard, as long as can be.
func TestPiecesOfDrawnMaps(t *testing.T) {
	d := dice(3)
	for range 200 {
		a, s := grown(t, d, 12)
		from := d.Intn(s.blocks+20) - 10
		to := from + d.Intn(80) - 5
		var want []api.Span
		for _, x := range s.shards {
			for block := max(from, x.Span.From); block < min(to, x.Span.To); block += 16 {
				want = append(want, one(block, min(block+16, to, x.Span.To)))
			}
		}
		if l := a.Pieces(one(from, to)); !slices.Equal(l, want) {
			t.Errorf("Pieces(%d, %d) of %v: %v, want %v", from, to, s.shards, l, want)
		}
	}
}

// P11.5
func TestNilAtlas(t *testing.T) {
	var a *atlas.Atlas
	if a.Blocks() != 0 || a.Epoch() != 0 || a.Next() != 0 || len(a.Open()) != 0 || len(a.Shards()) != 0 || len(a.Pieces(one(0, 9))) != 0 || len(a.Encode()) != 0 {
		t.Error("a nil map has something")
	}
	for _, n := range []int{-1, 0, 1, 2} {
		s, ok := a.Get(n)
		x, found := a.Find(n)
		if ok || found || !isZero(s) || !isZero(x) {
			t.Errorf("a nil map has %v, %v at %d", s, x, n)
		}
	}
	for _, c := range []api.Change{{}, split(1, 4), settle(), renew(1), {Kind: 9}, {Kind: api.ChangeSettle, In: 3}} {
		if e := a.Apply(c); e != api.ErrNone {
			t.Errorf("Apply of %v: error %d", c, e)
		}
	}
	if a.Clone() != nil {
		t.Error("a clone of a nil map is one")
	}
	b := begun(t, 10, 0)
	if !atlas.Same(nil, nil) || !atlas.Same(a, a.Clone()) || atlas.Same(a, b) || atlas.Same(b, a) {
		t.Error("a nil map is the same as nil alone")
	}
}

// P11.5: maps are the same that have the same, by whatever way they came to it.
func TestSame(t *testing.T) {
	full := func() state {
		return state{10, 7, 9, nodes(6, 8), []api.Shard{
			part(6, 0, 4, nodes(0, 1, 2), was(3, 0, 2, 0), was(5, 2, 4, 1)),
			part(8, 4, 10, nodes(4)),
		}}
	}
	a := loaded(t, full())
	if !atlas.Same(a, a) || !atlas.Same(a, loaded(t, full())) {
		t.Error("a map isn't the same as itself")
	}
	for i, change := range []func(*state){
		func(s *state) { s.blocks, s.shards[1].Span.To = 11, 11 },
		func(s *state) { s.epoch++ },
		func(s *state) { s.next++ },
		func(s *state) { s.open = nil },
		func(s *state) { s.open = nodes(8) },
		func(s *state) { s.shards[1].Id, s.open = 7, nodes(6) },
		func(s *state) { s.shards[0].Span.To, s.shards[1].Span.From = 5, 5 },
		func(s *state) { s.shards[1].Members = nodes(5) },
		func(s *state) { s.shards[0].Members = nodes(0) },
		func(s *state) { s.shards[0].Past = nil },
		func(s *state) { s.shards[0].Past[0].Id = 4 },
		func(s *state) { s.shards[0].Past[1].Span.To = 5 },
		func(s *state) { s.shards[0].Past[1].Members = nodes(2) },
	} {
		s := full()
		change(&s)
		if b := loaded(t, s); atlas.Same(a, b) || atlas.Same(b, a) {
			t.Errorf("change %d: the maps are the same", i)
		}
	}
}

// P11.5: what is done to a clone isn't done to the map, nor the other way round.
func TestClone(t *testing.T) {
	a := begun(t, 10, 0, 1, 2)
	does(t, a, split(1, 4))
	b := a.Clone()
	halves := []api.Shard{part(2, 0, 4, nodes(0, 1, 2), was(1, 0, 10, 0, 1, 2)), part(3, 4, 10, nodes(0, 1, 2), was(1, 0, 10, 0, 1, 2))}
	is(t, "the clone", b, state{10, 2, 4, nodes(2, 3), halves})
	if !atlas.Same(a, b) {
		t.Error("a clone isn't the same")
	}
	does(t, b, settle(), replace(2, 1, 5))
	is(t, "the map", a, state{10, 2, 4, nodes(2, 3), halves})
	is(t, "the changed clone", b, state{10, 3, 5, nodes(4), []api.Shard{part(4, 0, 4, nodes(0, 2, 5), was(2, 0, 4, 0, 1, 2)), halves[1]}})
	does(t, a, settle(), merge(2, 3))
	is(t, "the changed map", a, state{10, 3, 5, nodes(4), []api.Shard{part(4, 0, 10, nodes(0, 1, 2), was(2, 0, 4, 0, 1, 2), was(3, 4, 10, 0, 1, 2))}})
	is(t, "the changed clone again", b, state{10, 3, 5, nodes(4), []api.Shard{part(4, 0, 4, nodes(0, 2, 5), was(2, 0, 4, 0, 1, 2)), halves[1]}})
}

// spoil writes over all that a shard has, its lists' spare room included.
func spoil(l ...api.Shard) {
	for _, s := range l {
		wipe(s.Members)
		for _, o := range s.Past {
			wipe(o.Members)
		}
		clear(s.Past[:cap(s.Past)])
	}
	clear(l)
}

func wipe(l []int) {
	for i := range l[:cap(l)] {
		l[:cap(l)][i] = 99
	}
}

// Rule 4: what is handed in stays as it is and isn't kept, what is told is new memory.
func TestMemory(t *testing.T) {
	room := nodes(0, 1, 2, 3, 4)
	a := begun(t, 10, room[:3]...)
	b, _ := atlas.New(10, room[:3])
	wipe(room)
	is(t, "the members written over", b, first(10, 0, 1, 2))
	does(t, a, split(1, 4), settle(), merge(2, 3))
	want := state{10, 3, 5, nodes(4), []api.Shard{part(4, 0, 10, nodes(0, 1, 2), was(2, 0, 4, 0, 1, 2), was(3, 4, 10, 0, 1, 2))}}
	other := a.Clone()
	for range 2 {
		s, _ := a.Get(4)
		x, _ := a.Find(5)
		spoil(s, x)
		spoil(a.Shards()...)
		wipe(a.Open())
		clear(a.Encode())
		clear(a.Pieces(one(0, 10)))
		is(t, "the answers written over", a, want)
		is(t, "its clone", other, want)
	}
	raw := a.Encode()
	kept := slices.Clone(raw)
	back, e := atlas.Decode(raw)
	if e != api.OK || !bytes.Equal(raw, kept) {
		t.Error("Decode has changed its bytes", e)
	}
	clear(raw)
	is(t, "the bytes written over", back, want)
}

// Rule 4: two shards of one answer have lists of their own, though they were made of the same one.
func TestListsApart(t *testing.T) {
	a := begun(t, 10, 0, 1, 2)
	does(t, a, split(1, 4))
	l := a.Shards()
	spoil(l[0])
	if !sameShard(l[1], part(3, 4, 10, nodes(0, 1, 2), was(1, 0, 10, 0, 1, 2))) {
		t.Errorf("the second shard has changed with the first one: %v", l[1])
	}
}
