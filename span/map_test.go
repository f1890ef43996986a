package span_test

import (
	"math"
	"slices"
	"testing"

	"lamella/api"
	"lamella/span"
)

func is[V comparable](from, to int, v V) held[V] { return held[V]{one(from, to), v} }

// P2.2
func TestPut(t *testing.T) {
	m := &span.Map[int]{}
	keeps(t, "a zero one", m)
	lacks(t, "a zero one", m, least, -1, 0, 1, greatest)
	m.Put(one(0, 9), 1)
	keeps(t, "one piece", m, is(0, 9, 1))
	lacks(t, "one piece", m, -1, 9, least, greatest)
	m.Put(one(3, 5), 2) // example 2
	keeps(t, "in its midst", m, is(0, 3, 1), is(3, 5, 2), is(5, 9, 1))
	m.Put(one(3, 5), 1)
	keeps(t, "and back", m, is(0, 9, 1))
	m.Put(one(12, 14), 1)
	keeps(t, "with a gap", m, is(0, 9, 1), is(12, 14, 1))
	lacks(t, "with a gap", m, -1, 9, 11, 14)
	m.Put(one(9, 12), 1)
	keeps(t, "the gap filled", m, is(0, 14, 1))
	m.Put(one(-3, 2), 5)
	keeps(t, "over its beginning", m, is(-3, 2, 5), is(2, 14, 1))
	m.Put(one(10, 20), 5)
	keeps(t, "over its end", m, is(-3, 2, 5), is(2, 10, 1), is(10, 20, 5))
	m.Put(one(-5, 25), 7)
	keeps(t, "over all", m, is(-5, 25, 7))
	m.Put(one(-5, 25), 8)
	keeps(t, "just over it", m, is(-5, 25, 8))
}

// P2.2: the zero value is a value like others.
func TestPutOfZeroValues(t *testing.T) {
	var m span.Map[string]
	m.Put(one(0, 3), "")
	keeps(t, "an empty text", &m, is(0, 3, ""))
	if _, ok := m.Get(3); ok {
		t.Error("a block with no value has one")
	}
	m.Put(one(3, 5), "a")
	keeps(t, "and another one", &m, is(0, 3, ""), is(3, 5, "a"))
}

// P2.4: what is side by side grows together, if it has one value, and else does not.
func TestPiecesGrowTogether(t *testing.T) {
	for _, c := range []struct {
		put  held[string]
		want []held[string]
	}{
		{is(3, 6, "a"), []held[string]{is(0, 6, "a"), is(6, 9, "b")}},
		{is(3, 6, "b"), []held[string]{is(0, 3, "a"), is(3, 9, "b")}},
		{is(3, 6, "c"), []held[string]{is(0, 3, "a"), is(3, 6, "c"), is(6, 9, "b")}},
		{is(4, 6, "a"), []held[string]{is(0, 3, "a"), is(4, 6, "a"), is(6, 9, "b")}},
		{is(3, 5, "b"), []held[string]{is(0, 3, "a"), is(3, 5, "b"), is(6, 9, "b")}},
		{is(2, 7, "a"), []held[string]{is(0, 7, "a"), is(7, 9, "b")}},
		{is(2, 7, "b"), []held[string]{is(0, 2, "a"), is(2, 9, "b")}},
		{is(1, 2, "a"), []held[string]{is(0, 3, "a"), is(6, 9, "b")}},
		{is(-2, 0, "a"), []held[string]{is(-2, 3, "a"), is(6, 9, "b")}},
		{is(9, 12, "b"), []held[string]{is(0, 3, "a"), is(6, 12, "b")}},
		{is(-2, -1, "a"), []held[string]{is(-2, -1, "a"), is(0, 3, "a"), is(6, 9, "b")}},
		{is(10, 12, "b"), []held[string]{is(0, 3, "a"), is(6, 9, "b"), is(10, 12, "b")}},
		{is(-2, 12, "b"), []held[string]{is(-2, 12, "b")}},
	} {
		var m span.Map[string]
		m.Put(one(6, 9), "b")
		m.Put(one(0, 3), "a")
		m.Put(c.put.span, c.put.value)
		keeps(t, "put", &m, c.want...)
	}
}

// P2.2
func TestDrop(t *testing.T) {
	for _, c := range []struct {
		drop api.Span
		want []held[string]
	}{
		{one(1, 2), []held[string]{is(0, 1, "a"), is(2, 3, "a"), is(3, 6, "b"), is(8, 9, "a")}},
		{one(0, 3), []held[string]{is(3, 6, "b"), is(8, 9, "a")}},
		{one(2, 4), []held[string]{is(0, 2, "a"), is(4, 6, "b"), is(8, 9, "a")}},
		{one(3, 6), []held[string]{is(0, 3, "a"), is(8, 9, "a")}},
		{one(6, 8), []held[string]{is(0, 3, "a"), is(3, 6, "b"), is(8, 9, "a")}},
		{one(-5, 0), []held[string]{is(0, 3, "a"), is(3, 6, "b"), is(8, 9, "a")}},
		{one(9, 15), []held[string]{is(0, 3, "a"), is(3, 6, "b"), is(8, 9, "a")}},
		{one(-5, 1), []held[string]{is(1, 3, "a"), is(3, 6, "b"), is(8, 9, "a")}},
		{one(5, 15), []held[string]{is(0, 3, "a"), is(3, 5, "b")}},
		{one(0, 9), nil},
		{one(least, greatest), nil},
		{one(4, 4), []held[string]{is(0, 3, "a"), is(3, 6, "b"), is(8, 9, "a")}},
		{one(6, 1), []held[string]{is(0, 3, "a"), is(3, 6, "b"), is(8, 9, "a")}},
	} {
		var m span.Map[string]
		m.Put(one(0, 3), "a")
		m.Put(one(3, 6), "b")
		m.Put(one(8, 9), "a")
		m.Drop(c.drop)
		keeps(t, "drop", &m, c.want...)
		for block := c.drop.From; block < min(c.drop.To, 20) && block > least; block++ {
			lacks(t, "drop", &m, block)
		}
	}
	var none span.Map[string]
	none.Drop(one(0, 9))
	keeps(t, "drop of nothing", &none)
}

// P2.2: an empty span has no blocks, so nothing is put and nothing dropped.
func TestEmptySpansChangeNothing(t *testing.T) {
	for _, s := range []api.Span{one(4, 4), one(6, 2), one(9, 9), one(0, 0), one(greatest, least), one(greatest, greatest), one(least, least)} {
		var m span.Map[int]
		m.Put(s, 5)
		m.Drop(s)
		keeps(t, "a zero one", &m)
		m.Put(one(0, 9), 1)
		m.Put(s, 5)
		keeps(t, "Put", &m, is(0, 9, 1))
		m.Drop(s)
		keeps(t, "Drop", &m, is(0, 9, 1))
	}
}

// P2.2: blocks at the ends of the whole numbers.
func TestMapAtTheEnds(t *testing.T) {
	var m span.Map[int]
	m.Put(one(least, greatest), 1)
	keeps(t, "all", &m, is(least, greatest, 1))
	lacks(t, "all", &m, greatest)
	m.Put(one(least, least+1), 2)
	m.Put(one(greatest-1, greatest), 3)
	keeps(t, "both ends", &m, is(least, least+1, 2), is(least+1, greatest-1, 1), is(greatest-1, greatest, 3))
	m.Drop(one(least+1, greatest-1))
	keeps(t, "just the ends", &m, is(least, least+1, 2), is(greatest-1, greatest, 3))
	lacks(t, "just the ends", &m, least+1, 0, greatest-2, greatest)
	m.Put(one(least+1, greatest), 2)
	keeps(t, "all again", &m, is(least, greatest, 2))
	m.Drop(one(least, 0))
	m.Drop(one(1, greatest))
	keeps(t, "what is left", &m, is(0, 1, 2))
	m.Drop(one(least, greatest))
	keeps(t, "nothing", &m)
}

// P2.2: a loop may be left, and gone through again.
func TestEachMayBeLeft(t *testing.T) {
	var m span.Map[int]
	for i := range 6 {
		m.Put(one(i*2, i*2+2), i)
	}
	each := m.Each()
	for n := range 7 {
		got := 0
		for s, v := range each {
			if got == n {
				break
			}
			if s != one(got*2, got*2+2) || v != got {
				t.Errorf("piece %d: %v, %d", got, s, v)
			}
			got++
		}
		if got != n {
			t.Errorf("left behind %d pieces, not %d", got, n)
		}
	}
}

// P2.2: a loop goes over the pieces that there were when it began.
func TestChangesWithinALoop(t *testing.T) {
	changes := map[string]func(m *span.Map[int], s api.Span){
		"put over all":      func(m *span.Map[int], s api.Span) { m.Put(one(-5, 30), 77) },
		"put on the piece":  func(m *span.Map[int], s api.Span) { m.Put(s, 77) },
		"put behind":        func(m *span.Map[int], s api.Span) { m.Put(one(s.To, s.To+2), 77) },
		"put ahead":         func(m *span.Map[int], s api.Span) { m.Put(one(s.From-1, s.From), 77) },
		"put within":        func(m *span.Map[int], s api.Span) { m.Put(one(s.From+1, s.From+2), 77) },
		"put at the end":    func(m *span.Map[int], s api.Span) { m.Put(one(s.From+100, s.From+101), s.From) },
		"drop of the piece": func(m *span.Map[int], s api.Span) { m.Drop(s) },
		"drop of the next":  func(m *span.Map[int], s api.Span) { m.Drop(one(s.To, s.To+4)) },
		"drop of all":       func(m *span.Map[int], s api.Span) { m.Drop(one(least, greatest)) },
	}
	for name, change := range changes {
		var m span.Map[int]
		var want []held[int]
		for i := range 5 {
			m.Put(one(i*4, i*4+4), i)
			want = append(want, is(i*4, i*4+4, i))
		}
		var got []held[int]
		for s, v := range m.Each() {
			got = append(got, held[int]{s, v})
			change(&m, s)
		}
		if !slices.Equal(got, want) {
			t.Errorf("%s: %v", name, got)
		}
		if later := pieces(&m); slices.Equal(later, want) || m.Len() != len(later) {
			t.Errorf("%s: a later loop goes over %v", name, later)
		}
	}
}

// P2.2: what is put ahead of a loop's beginning is gone over, also if Each was asked sooner.
func TestALoopBeginsWhenItIsGoneInto(t *testing.T) {
	var m span.Map[int]
	each := m.Each()
	m.Put(one(0, 3), 1)
	n := 0
	for s, v := range each {
		n++
		if s != one(0, 3) || v != 1 {
			t.Error(s, v)
		}
	}
	if n != 1 {
		t.Error(n)
	}
}

// P2.2
func TestClone(t *testing.T) {
	m := &span.Map[int]{}
	keeps(t, "a zero one's clone", m.Clone())
	m.Put(one(0, 9), 1)
	m.Put(one(12, 15), 2)
	c := m.Clone()
	keeps(t, "clone", c, is(0, 9, 1), is(12, 15, 2))

	m.Put(one(3, 5), 7)
	m.Drop(one(12, 13))
	keeps(t, "clone of a changed one", c, is(0, 9, 1), is(12, 15, 2))
	keeps(t, "changed", m, is(0, 3, 1), is(3, 5, 7), is(5, 9, 1), is(13, 15, 2))

	c.Put(one(0, 15), 4)
	c.Put(one(2, 3), 8)
	keeps(t, "whose clone was changed", m, is(0, 3, 1), is(3, 5, 7), is(5, 9, 1), is(13, 15, 2))
	keeps(t, "changed clone", c, is(0, 2, 4), is(2, 3, 8), is(3, 15, 4))

	c.Drop(one(least, greatest))
	m.Put(one(0, 1), 6)
	keeps(t, "empty clone", c)
	keeps(t, "whose clone is empty", m, is(0, 1, 6), is(1, 3, 1), is(3, 5, 7), is(5, 9, 1), is(13, 15, 2))
}

// P2.2: a clone that is changed within a loop over its original, and the other way round.
func TestCloneWithinALoop(t *testing.T) {
	var m span.Map[int]
	m.Put(one(0, 2), 1)
	m.Put(one(2, 4), 2)
	m.Put(one(6, 8), 3)
	c := m.Clone()
	for s := range m.Each() {
		c.Put(s, 9)
	}
	keeps(t, "original", &m, is(0, 2, 1), is(2, 4, 2), is(6, 8, 3))
	keeps(t, "clone", c, is(0, 4, 9), is(6, 8, 9))
	for s := range c.Each() {
		m.Drop(s)
	}
	keeps(t, "original", &m)
	keeps(t, "clone", c, is(0, 4, 9), is(6, 8, 9))
}

// P2.2
func TestANilMap(t *testing.T) {
	var m *span.Map[string]
	for range 2 {
		if m.Len() != 0 {
			t.Error(m.Len())
		}
		lacks(t, "nil", m, least, 0, 5, greatest)
		for s, v := range m.Each() {
			t.Error(s, v)
		}
		m.Put(one(0, 9), "a")
		m.Drop(one(3, 5))
		m.Put(one(5, 5), "a")
		m.Drop(one(5, 3))
	}
	c := m.Clone()
	if c == nil {
		t.Fatal("a nil one's clone is nil")
	}
	keeps(t, "a nil one's clone", c)
	c.Put(one(0, 3), "a")
	keeps(t, "a nil one's clone", c, is(0, 3, "a"))
}

// P2.4: a Map told of in blocks, one by one.
func TestMapTellsWhatWasPutLast(t *testing.T) {
	d := dice()
	for run := range 300 {
		var m span.Map[int]
		told := map[int]int{}
		for range 40 {
			s, v := someSpan(d), 1+d.Intn(3)
			drop := d.Intn(4) == 0
			if drop {
				m.Drop(s)
			} else {
				m.Put(s, v)
			}
			for block := s.From; block < s.To; block++ {
				if told[block] = v; drop {
					delete(told, block)
				}
			}
			for block := low - 2; block < high+2; block++ {
				want, there := told[block]
				if got, ok := m.Get(block); got != want || ok != there {
					t.Fatalf("run %d: block %d: %d, %v, want %d, %v", run, block, got, ok, want, there)
				}
			}
			wellCut(t, &m, told)
		}
	}
}

// wellCut checks that the pieces are just what is told, rise, and are as long as can be.
func wellCut(t *testing.T, m *span.Map[int], told map[int]int) {
	t.Helper()
	l, blocks := pieces(m), 0
	for i, p := range l {
		for block := p.span.From; block < p.span.To; block++ {
			blocks++
			if v, ok := told[block]; v != p.value || !ok {
				t.Fatalf("%v: block %d", l, block)
			}
		}
		if p.span.From >= p.span.To || i > 0 && l[i-1].span.To > p.span.From {
			t.Fatalf("%v: they don't rise", l)
		}
		if i > 0 && l[i-1].span.To == p.span.From && l[i-1].value == p.value {
			t.Fatalf("%v: two side by side have one value", l)
		}
	}
	if blocks != len(told) || m.Len() != len(l) {
		t.Fatalf("%v: %d blocks, Len %d", l, blocks, m.Len())
	}
}

// P2.2: a Map of many pieces.
func TestManyPieces(t *testing.T) {
	var m span.Map[int]
	const n = 3000
	for i := range n {
		m.Put(one(2*i, 2*i+1), i)
	}
	if m.Len() != n {
		t.Fatal(m.Len())
	}
	for i := range n {
		if v, ok := m.Get(2 * i); v != i || !ok {
			t.Fatalf("Get(%d): %d, %v", 2*i, v, ok)
		}
		lacks(t, "between", &m, 2*i+1)
	}
	for i := n - 1; i >= 0; i-- {
		m.Put(one(2*i, 2*i+2), n)
	}
	keeps(t, "all of one value", &m, is(0, 2*n, n))
}

// Rule 1: V may be an interface, and its values not comparable: they stand in pieces of their own, and nothing panics.
func TestValuesThatCannotBeCompared(t *testing.T) {
	var m span.Map[any]
	m.Put(one(0, 3), []int{1})
	m.Put(one(3, 6), []int{1})
	m.Put(one(6, 9), "a")
	m.Put(one(9, 12), "a")
	if m.Len() != 3 {
		t.Error(m.Len())
	}
	if v, ok := m.Get(4); !ok || v.([]int)[0] != 1 {
		t.Error(v, ok)
	}
	m.Drop(one(1, 4))
	if m.Len() != 3 {
		t.Error(m.Len())
	}
}

// P2.4: what isn't equal to itself is no one value with what is beside it.
func TestValuesThatAreNotEqualToThemselves(t *testing.T) {
	var m span.Map[float64]
	m.Put(one(0, 3), math.NaN())
	m.Put(one(3, 6), math.NaN())
	if m.Len() != 2 {
		t.Error(m.Len())
	}
	if v, ok := m.Get(5); !ok || !math.IsNaN(v) {
		t.Error(v, ok)
	}
}
