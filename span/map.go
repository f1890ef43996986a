package span

import (
	"iter"
	"math"
	"slices"
	"sort"

	"lamella/api"
)

// Map keeps values for blocks: P2.2. Its pieces rise, none is empty, and no two side by side have one value. A row of pieces is never written again once it is kept, so that a loop that has begun goes on over its own.
type Map[V comparable] struct {
	pieces []piece[V]
}

type piece[V comparable] struct {
	span  api.Span
	value V
}

// Put: P2.2.
func (m *Map[V]) Put(s api.Span, v V) { m.change(s, piece[V]{s, v}) }

// Drop: P2.2.
func (m *Map[V]) Drop(s api.Span) { m.change(s) }

// Get: P2.2.
func (m *Map[V]) Get(block int) (V, bool) {
	var none V
	if m == nil {
		return none, false
	}
	i := sort.Search(len(m.pieces), func(i int) bool { return block < m.pieces[i].span.To })
	if i == len(m.pieces) || block < m.pieces[i].span.From {
		return none, false
	}
	return m.pieces[i].value, true
}

// Len: P2.2.
func (m *Map[V]) Len() int {
	if m == nil {
		return 0
	}
	return len(m.pieces)
}

// Each: P2.2.
func (m *Map[V]) Each() iter.Seq2[api.Span, V] {
	return func(yield func(api.Span, V) bool) {
		if m == nil {
			return
		}
		for _, p := range m.pieces {
			if !yield(p.span, p.value) {
				return
			}
		}
	}
}

// Clone: P2.2.
func (m *Map[V]) Clone() *Map[V] {
	if m == nil {
		return &Map[V]{}
	}
	return &Map[V]{slices.Clone(m.pieces)}
}

// change lays put where s is. Those side by side with s are laid anew, too, for they may have the value that is put.
func (m *Map[V]) change(s api.Span, put ...piece[V]) {
	if m == nil || empty(s) {
		return
	}
	i, j := m.near(s)
	var anew []piece[V]
	for p := range within(m.pieces[i:j], api.Span{From: math.MinInt, To: s.From}) {
		anew = lay(anew, p)
	}
	for _, p := range put {
		anew = lay(anew, p)
	}
	for p := range within(m.pieces[i:j], api.Span{From: s.To, To: math.MaxInt}) {
		anew = lay(anew, p)
	}
	m.pieces = slices.Concat(m.pieces[:i], anew, m.pieces[j:])
}

// near: from where to before where the pieces stand that touch s or are side by side with it.
func (m *Map[V]) near(s api.Span) (int, int) {
	i := sort.Search(len(m.pieces), func(i int) bool { return s.From <= m.pieces[i].span.To })
	j := sort.Search(len(m.pieces), func(i int) bool { return s.To < m.pieces[i].span.From })
	return i, j
}

// within goes over what the pieces have within s.
func within[V comparable](pieces []piece[V], s api.Span) iter.Seq[piece[V]] {
	return func(yield func(piece[V]) bool) {
		for _, p := range pieces {
			part := common(p.span, s)
			if !empty(part) && !yield(piece[V]{part, p.value}) {
				return
			}
		}
	}
}

// lay: the pieces with p behind them, grown together with the last one if it is side by side with p and has its value.
func lay[V comparable](pieces []piece[V], p piece[V]) []piece[V] {
	last := len(pieces) - 1
	if last < 0 || pieces[last].span.To != p.span.From || !same(pieces[last].value, p.value) {
		return append(pieces, p)
	}
	pieces[last].span.To = p.span.To
	return pieces
}

// same: are they one value? V may be an interface, and what stands in it may not be comparable: such values are never one.
func same[V comparable](a, b V) (is bool) {
	defer func() { _ = recover() }()
	return a == b
}
