package warden_test

import (
	"math"
	"testing"

	"lamella/api"
	"lamella/warden"
)

// mid asks a meter for one.
func mid(t *testing.T, m *warden.Meter, from, to, want int) {
	t.Helper()
	if n := m.Mid(one(from, to)); n != want {
		t.Errorf("Mid of %d to %d: %d, want %d", from, to, n, want)
	}
}

// counted asks a meter how many commands it has.
func counted(t *testing.T, m *warden.Meter, want int) {
	t.Helper()
	if n := m.Commands(); n != want {
		t.Errorf("%d commands, want %d", n, want)
	}
}

// P12.3: a zero meter.
func TestZeroMeter(t *testing.T) {
	var m warden.Meter
	counted(t, &m, 0)
	for _, from := range []int{0, 1, 255, 256, 300, -1, math.MinInt, math.MaxInt} {
		for _, to := range []int{0, 1, 8, 256, 300, -1, math.MinInt, math.MaxInt} {
			mid(t, &m, from, to, from)
		}
	}
	m.Clear()
	counted(t, &m, 0)
	m.Note(one(3, 4))
	counted(t, &m, 1)
	mid(t, &m, 0, 8, 3)
}

// P12.3: a nil meter.
func TestNilMeter(t *testing.T) {
	var m *warden.Meter
	for range 2 {
		counted(t, m, 0)
		for _, from := range []int{0, 7, -1, 256, math.MinInt, math.MaxInt} {
			mid(t, m, from, 8, from)
		}
		m.Note(one(0, 8))
		m.Clear()
	}
}

// P12.3: the block up to which at least half lies.
func TestMid(t *testing.T) {
	var m warden.Meter
	m.Note(one(2, 3))
	mid(t, &m, 0, 8, 2)
	mid(t, &m, 2, 8, 2)
	mid(t, &m, 2, 3, 2)
	m.Note(one(5, 6)) // one of two is half
	mid(t, &m, 0, 8, 2)
	m.Note(one(6, 7)) // one of three isn't
	mid(t, &m, 0, 8, 5)
	m.Note(one(6, 7)) // two of four are
	mid(t, &m, 0, 8, 5)
	m.Note(one(6, 7)) // two of five aren't
	mid(t, &m, 0, 8, 6)
	counted(t, &m, 5)
	mid(t, &m, 0, 6, 2) // what lies elsewhere isn't asked for
	mid(t, &m, 0, 5, 2)
	mid(t, &m, 3, 8, 6)
	mid(t, &m, 3, 7, 6)
	mid(t, &m, 3, 6, 5)
	mid(t, &m, 7, 8, 7)
	mid(t, &m, 0, 2, 0)
	mid(t, &m, 3, 5, 3)
}

// P12.3: each block of a command counts.
func TestNoteOfManyBlocks(t *testing.T) {
	var m warden.Meter
	m.Note(one(0, 8))
	counted(t, &m, 1)
	mid(t, &m, 0, 8, 3)
	mid(t, &m, 0, 7, 3)
	mid(t, &m, 2, 8, 4)
	m.Note(one(6, 8))
	mid(t, &m, 0, 8, 4)
	m.Note(one(6, 8))
	mid(t, &m, 0, 8, 5)
	m.Note(one(6, 8))
	mid(t, &m, 0, 8, 6)
	counted(t, &m, 4)
}

// P12.3: blocks that there can't be don't count; the command does.
func TestNoteBesideTheDisk(t *testing.T) {
	for _, s := range []api.Span{one(-3, 0), one(256, 300), one(5, 5), one(9, 2), one(0, 0), one(math.MinInt, 0), one(256, math.MaxInt), one(math.MaxInt, math.MinInt), one(math.MinInt, math.MinInt), one(math.MaxInt, math.MaxInt)} {
		var m warden.Meter
		m.Note(s)
		counted(t, &m, 1)
		mid(t, &m, 0, api.MaxBlocks, 0)
		mid(t, &m, math.MinInt, math.MaxInt, math.MinInt)
	}
	for _, c := range []struct {
		s         api.Span
		first, to int
	}{
		{one(-3, 1), 0, 1}, {one(255, 300), 255, 256}, {one(-5, 3), 0, 3}, {one(250, 256), 250, 256}, {one(250, 257), 250, 256},
		{one(math.MinInt, 2), 0, 2}, {one(254, math.MaxInt), 254, 256}, {one(math.MinInt, math.MaxInt), 0, 256}, {one(-1, 256), 0, 256},
	} {
		var m warden.Meter
		m.Note(c.s)
		counted(t, &m, 1)
		half := c.first + (c.to-c.first-1)/2
		mid(t, &m, 0, api.MaxBlocks, half)
		mid(t, &m, math.MinInt, math.MaxInt, half)
		mid(t, &m, c.first, c.to, half)
	}
}

// P12.3: a Mid of blocks some of which can't be.
func TestMidBesideTheDisk(t *testing.T) {
	var m warden.Meter
	m.Note(one(0, 1))
	m.Note(one(255, 256))
	m.Note(one(255, 256))
	for _, c := range []struct{ from, to, want int }{
		{-9, 1, 0}, {-9, 0, -9}, {-9, 255, 0}, {-9, 256, 255}, {-9, 999, 255}, {255, 999, 255}, {256, 999, 256}, {300, 999, 300},
		{1, 255, 1}, {1, 256, 255}, {5, 5, 5}, {5, 4, 5}, {255, 255, 255}, {256, 0, 256},
		{math.MinInt, math.MaxInt, 255}, {math.MinInt, 9, 0}, {math.MinInt, -9, math.MinInt}, {9, math.MaxInt, 255}, {math.MaxInt, math.MinInt, math.MaxInt},
	} {
		mid(t, &m, c.from, c.to, c.want)
	}
	counted(t, &m, 3)
}

// P12.3: Clear, also twice, and what is noted behind it.
func TestClear(t *testing.T) {
	var m warden.Meter
	m.Note(one(0, 256))
	m.Note(one(7, 9))
	m.Clear()
	counted(t, &m, 0)
	for block := range api.MaxBlocks {
		mid(t, &m, block, api.MaxBlocks, block)
	}
	mid(t, &m, -4, 8, -4)
	m.Clear()
	m.Note(one(5, 6))
	counted(t, &m, 1)
	mid(t, &m, 0, 256, 5)
}

// P12.3: two meters count apart.
func TestMetersApart(t *testing.T) {
	var a, b warden.Meter
	a.Note(one(3, 4))
	counted(t, &b, 0)
	mid(t, &b, 0, 8, 0)
	b.Note(one(5, 6))
	a.Clear()
	counted(t, &b, 1)
	mid(t, &b, 0, 8, 5)
	mid(t, &a, 0, 8, 0)
}

// P12.3: against commands that are kept one by one.
func TestDrawnMeters(t *testing.T) {
	d := dice(4)
	for range 300 {
		var m warden.Meter
		var l []api.Span
		for range 40 {
			s := one(d.Intn(290)-15, d.Intn(290)-15)
			if d.Intn(2) == 0 {
				s.To = s.From + d.Intn(6)
			}
			if d.Intn(4) > 0 {
				m.Note(s)
				l = append(l, s)
			} else if d.Intn(10) == 0 {
				m.Clear()
				l = nil
			}
			counted(t, &m, len(l))
			s = one(d.Intn(290)-15, d.Intn(290)-15)
			mid(t, &m, s.From, s.To, plainMid(l, s))
		}
	}
}

// plainMid counts anew, block by block.
func plainMid(l []api.Span, s api.Span) int {
	upTo := func(last int) int {
		n := 0
		for _, had := range l {
			for block := max(s.From, had.From, 0); block < min(s.To, had.To, api.MaxBlocks) && block <= last; block++ {
				n++
			}
		}
		return n
	}
	all := upTo(math.MaxInt)
	for block := s.From; block < s.To && all > 0; block++ {
		if upTo(block)*2 >= all {
			return block
		}
	}
	return s.From
}
