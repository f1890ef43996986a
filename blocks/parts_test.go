package blocks_test

import (
	"math"
	"slices"
	"testing"

	"lamella/api"
	"lamella/blocks"
)

// frozen is s, frozen.
func frozen(t *testing.T, s *blocks.Store) *blocks.Store {
	t.Helper()
	does(t, s, api.Cmd{Op: api.OpFreeze})
	return s
}

// part is a part that there is.
func part(t *testing.T, s *blocks.Store, from, to int) *blocks.Store {
	t.Helper()
	p, e := s.Part(api.Span{From: from, To: to})
	if p == nil || e != api.OK {
		t.Fatalf("Part(%d, %d): %v, error %d", from, to, p != nil, e)
	}
	return p
}

// merged is a whole that there is.
func merged(t *testing.T, l ...*blocks.Store) *blocks.Store {
	t.Helper()
	s, e := blocks.Merge(l...)
	if s == nil || e != api.OK {
		t.Fatalf("Merge of %d: %v, error %d", len(l), s != nil, e)
	}
	return s
}

// P5.5
func TestPart(t *testing.T) {
	s := made(t)
	for _, whole := range []*blocks.Store{s, frozen(t, s.Clone())} {
		was := whole.Frozen()
		for from := 2; from < 6; from++ {
			for to := from + 1; to <= 6; to++ {
				has(t, "a part", part(t, whole, from, to), from, false, madeCells()[from-2:to-2]...)
			}
		}
		has(t, "the whole", whole, 2, was, madeCells()...)
	}
}

// P5.5: a span without blocks is told ahead of blocks that there aren't.
func TestPartThatThereIsnt(t *testing.T) {
	for _, s := range []*blocks.Store{made(t), frozen(t, made(t))} {
		for _, of := range []api.Span{{}, {From: 3, To: 3}, {From: 4, To: 3}, {From: 9, To: 9}, {From: 9, To: 1}, {From: 0, To: -1}, {From: -1, To: -1}, {From: math.MaxInt, To: math.MinInt}} {
			p, e := s.Part(of)
			refused(t, "no blocks", api.ErrArg, p, e)
		}
		for _, of := range []api.Span{{From: 1, To: 3}, {From: 1, To: 6}, {From: 2, To: 7}, {From: 1, To: 7}, {From: 0, To: 1}, {From: 0, To: 2}, {From: 6, To: 7}, {From: 9, To: 10},
			{From: -1, To: 3}, {From: 5, To: 300}, {From: math.MinInt, To: math.MaxInt}, {From: math.MinInt, To: math.MinInt + 1}, {From: math.MaxInt - 1, To: math.MaxInt}} {
			p, e := s.Part(of)
			refused(t, "others", api.ErrRange, p, e)
		}
	}
}

// P5.5, rule 4: a part and its store go their own ways.
func TestPartIsApart(t *testing.T) {
	s := made(t)
	p := part(t, s, 2, 4)
	does(t, p, write(1, 8, 2, "p", "q"), api.Cmd{Op: api.OpFreeze})
	has(t, "the store", s, 2, false, madeCells()...)
	does(t, s, write(2, 8, 2, "s", "s", "s", "s"))
	has(t, "the part", p, 2, true, cell{"p", [4]int{0, 8}}, cell{"q", [4]int{0, 8}})
	whole := part(t, s, 2, 6)
	does(t, whole, write(2, 9, 3, "w"))
	if text, _ := s.Block(3); text != "s" {
		t.Error("a part that is the whole shares it", text)
	}
}

// P5.5
func TestMerge(t *testing.T) {
	s := frozen(t, made(t))
	has(t, "one", merged(t, s), 2, false, madeCells()...)
	a, b, c := part(t, s, 2, 3), frozen(t, part(t, s, 3, 4)), frozen(t, part(t, s, 4, 6))
	has(t, "three", merged(t, a, b, c), 2, false, madeCells()...)
	has(t, "two", merged(t, b, c), 3, false, madeCells()[1:]...)
	has(t, "one that is frozen", merged(t, b), 3, false, cell{})
	has(t, "the first", a, 2, false, madeCells()[:1]...)
	has(t, "the second", b, 3, true, cell{})
	has(t, "the third", c, 4, true, madeCells()[2:]...)
	has(t, "all blocks", merged(t, begun(t, 0, 128), begun(t, 128, 255), begun(t, 255, 256)), 0, false, make([]cell, 256)...)
}

// P5.5
func TestMergeOfWhatGoesNotTogether(t *testing.T) {
	a, b, c, s := begun(t, 0, 2), begun(t, 2, 3), begun(t, 3, 6), made(t)
	for i, l := range [][]*blocks.Store{
		nil, {}, {nil}, {nil, nil}, {a, nil}, {nil, a}, {a, nil, b}, {a, b, nil}, {nil, a, b},
		{a, c}, {c, a}, {b, a}, {a, a}, {a, b, b}, {a, b, a}, {a, c, b}, {b, a, c}, {a, a, b}, {a, b, c, c}, {c, b, a},
		{begun(t, 0, 3), b}, {b, s}, {s, a}, {s, begun(t, 5, 7)}, {a, b, begun(t, 4, 6)}, {begun(t, 0, 1), begun(t, 5, 6), begun(t, 6, 7)},
		{begun(t, 0, 1), begun(t, 1, 2), begun(t, 9, 10)},
	} {
		whole, e := blocks.Merge(l...)
		if whole != nil || e != api.ErrArg {
			t.Errorf("row %d: %v, error %d", i, whole != nil, e)
		}
	}
}

// P5.5, rule 4: the whole shares nothing with its parts, and the row stays as it is.
func TestMergeIsApart(t *testing.T) {
	s := made(t)
	l, untouched := roomy([]*blocks.Store{part(t, s, 2, 4), part(t, s, 4, 6)}, s)
	whole := merged(t, l...)
	does(t, whole, write(1, 8, 2, "w", "w", "w", "w"), api.Cmd{Op: api.OpFreeze})
	has(t, "the first", l[0], 2, false, madeCells()[:2]...)
	has(t, "the second", l[1], 4, false, madeCells()[2:]...)
	does(t, l[0], write(1, 9, 2, "p"))
	if text, _ := whole.Block(2); text != "w" {
		t.Error("the whole shares its first part", text)
	}
	alone := merged(t, s)
	does(t, alone, write(1, 8, 2, "x"))
	has(t, "the only one", s, 2, false, madeCells()...)
	if !untouched() {
		t.Error("the row was changed")
	}
}

// P5.5
func TestClone(t *testing.T) {
	s := made(t)
	c := s.Clone()
	has(t, "the clone", c, 2, false, madeCells()...)
	does(t, c, write(1, 8, 2, "c"), api.Cmd{Op: api.OpFreeze})
	has(t, "the store", s, 2, false, madeCells()...)
	does(t, s, write(1, 9, 3, "s"))
	want := madeCells()
	want[0] = cell{"c", [4]int{0, 8}}
	has(t, "the clone behind a change of the store", c, 2, true, want...)
	has(t, "the clone of a frozen one", c.Clone(), 2, true, want...)
}

// same checks Same both ways.
func same(t *testing.T, what string, want bool, a, b *blocks.Store) {
	t.Helper()
	if blocks.Same(a, b) != want || blocks.Same(b, a) != want {
		t.Errorf("%s: Same is %v, %v", what, blocks.Same(a, b), blocks.Same(b, a))
	}
}

// P5.5
func TestSame(t *testing.T) {
	s := made(t)
	same(t, "itself", true, s, s)
	same(t, "a clone", true, s, s.Clone())
	same(t, "another one", true, s, made(t))
	same(t, "frozen", false, s, frozen(t, made(t)))
	same(t, "both frozen", true, frozen(t, made(t)), frozen(t, made(t)))
	same(t, "nil", true, nil, nil)
	same(t, "nil and a store", false, nil, s)
	same(t, "nil and an empty one", false, nil, begun(t, 0, 1))
	same(t, "another span of as many", false, begun(t, 0, 4), begun(t, 1, 5))
	same(t, "a longer span", false, begun(t, 0, 4), begun(t, 0, 5))
	same(t, "a span that begins sooner", false, begun(t, 0, 4), begun(t, 1, 4))
	same(t, "texts and marks that came another way", true,
		after(t, write(1, 1, 0, "b"), write(0, 2, 0, "a")), after(t, write(0, 1, 0, "x"), write(0, 2, 0, "y"), write(0, 2, 0, "a"), write(1, 1, 0, "a")))
}

// after is a store of the blocks 0 and 1 behind these commands.
func after(t *testing.T, l ...api.Cmd) *blocks.Store {
	t.Helper()
	s := begun(t, 0, 2)
	does(t, s, l...)
	return s
}

// P5.5: each mark and each text counts.
func TestSameOfEachPart(t *testing.T) {
	base := []cell{{"a", [4]int{1, 2, 3, 4}}, {"", [4]int{5, 6, 7, 8}}, {full, [4]int{9, 9, 9, 9}}}
	s := decoded(t, laid(3, 6, 0, base...))
	same(t, "as it is", true, s, decoded(t, laid(3, 6, 0, base...)))
	for i := range base {
		for client := range 4 {
			other := slices.Clone(base)
			other[i].marks[client]++
			same(t, "another mark", false, s, decoded(t, laid(3, 6, 0, other...)))
		}
		for _, text := range []string{"b", full[1:], hollow} {
			other := slices.Clone(base)
			other[i].text = text
			same(t, "another text", false, s, decoded(t, laid(3, 6, 0, other...)))
		}
	}
	same(t, "frozen", false, s, decoded(t, laid(3, 6, 1, base...)))
	same(t, "elsewhere", false, s, decoded(t, laid(4, 7, 0, base...)))
}

func decoded(t *testing.T, b []byte) *blocks.Store {
	t.Helper()
	s, e := blocks.Decode(b)
	if s == nil || e != api.OK {
		t.Fatalf("Decode of %d bytes: error %d", len(b), e)
	}
	return s
}
