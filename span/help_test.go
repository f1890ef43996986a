package span_test

import (
	"math"
	"math/rand"
	"slices"
	"testing"

	"lamella/api"
	"lamella/span"
)

const (
	least    = math.MinInt
	greatest = math.MaxInt
)

// row is a row of spans, told as from, to, from, to.
func row(ends ...int) []api.Span {
	var l []api.Span
	for i := 0; i < len(ends); i += 2 {
		l = append(l, api.Span{From: ends[i], To: ends[i+1]})
	}
	return l
}

// one is a span.
func one(from, to int) api.Span { return api.Span{From: from, To: to} }

func sameRow(t *testing.T, what string, got, want []api.Span) {
	t.Helper()
	if !slices.Equal(got, want) {
		t.Errorf("%s: got %v, want %v", what, got, want)
	}
}

// isPlain: is the row plain, as P2.1 has it?
func isPlain(l []api.Span) bool {
	for i, s := range l {
		if s.From >= s.To || i > 0 && l[i-1].To >= s.From {
			return false
		}
	}
	return true
}

// dice are the same in each run.
func dice() *rand.Rand { return rand.New(rand.NewSource(2)) }

// The tests that draw take blocks from low to before high, so that each block can be asked.
const (
	low  = -20
	high = 20
)

func someSpan(d *rand.Rand) api.Span {
	from := low + d.Intn(high-low+1)
	return one(from, min(high, from+d.Intn(14)-4))
}

func someRow(d *rand.Rand) []api.Span {
	l := make([]api.Span, d.Intn(7))
	for i := range l {
		l[i] = someSpan(d)
	}
	return l
}

// in is P2.1's set of the blocks of a row, asked the plainest way.
func in(l []api.Span, block int) bool {
	for _, s := range l {
		if s.From <= block && block < s.To {
			return true
		}
	}
	return false
}

// holds checks that got is plain and has just the blocks of which want says so.
func holds(t *testing.T, what string, got []api.Span, want func(block int) bool) {
	t.Helper()
	if !isPlain(got) {
		t.Errorf("%s: %v isn't plain", what, got)
	}
	for block := low - 2; block < high+2; block++ {
		if in(got, block) != want(block) {
			t.Errorf("%s: %v: block %d: want %v", what, got, block, want(block))
		}
	}
}

// gone is what a loop goes over.
func gone(l []api.Span) []int {
	var blocks []int
	for block := range span.Blocks(l) {
		blocks = append(blocks, block)
	}
	return blocks
}

// held is a piece of a Map.
type held[V comparable] struct {
	span  api.Span
	value V
}

func pieces[V comparable](m *span.Map[V]) []held[V] {
	var l []held[V]
	for s, v := range m.Each() {
		l = append(l, held[V]{s, v})
	}
	return l
}

// keeps checks a Map's pieces, its Len, and each block at their ends.
func keeps[V comparable](t *testing.T, what string, m *span.Map[V], want ...held[V]) {
	t.Helper()
	got := pieces(m)
	if !slices.Equal(got, want) || m.Len() != len(want) {
		t.Errorf("%s: got %v, Len %d, want %v", what, got, m.Len(), want)
	}
	for _, p := range want {
		for _, block := range []int{p.span.From, p.span.To - 1} {
			if v, ok := m.Get(block); v != p.value || !ok {
				t.Errorf("%s: Get(%d): %v, %v", what, block, v, ok)
			}
		}
	}
}

// lacks checks that blocks have no value.
func lacks[V comparable](t *testing.T, what string, m *span.Map[V], blocks ...int) {
	t.Helper()
	var zero V
	for _, block := range blocks {
		if v, ok := m.Get(block); v != zero || ok {
			t.Errorf("%s: Get(%d): %v, %v", what, block, v, ok)
		}
	}
}
