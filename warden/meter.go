package warden

import "lamella/api"

// Meter counts commands by their blocks.
type Meter struct {
	commands int
	counts   [api.MaxBlocks]int // of each block: the commands that had it
}

// Note: P12.3.
func (m *Meter) Note(s api.Span) {
	if m == nil {
		return
	}
	m.commands++
	counts, _ := m.on(s)
	for i := range counts {
		counts[i]++
	}
}

// Commands: P12.3.
func (m *Meter) Commands() int {
	if m == nil {
		return 0
	}
	return m.commands
}

// Mid: P12.3.
func (m *Meter) Mid(s api.Span) int {
	if m == nil {
		return s.From
	}
	counts, from := m.on(s)
	all := 0
	for _, n := range counts {
		all += n
	}
	upTo := 0
	for i, n := range counts {
		upTo += n
		if all > 0 && 2*upTo >= all {
			return from + i
		}
	}
	return s.From
}

// Clear: P12.3.
func (m *Meter) Clear() {
	if m != nil {
		*m = Meter{}
	}
}

// on: the counts of the blocks of s that may be a disk's, and the first of these.
func (m *Meter) on(s api.Span) ([]int, int) {
	from := min(max(s.From, 0), api.MaxBlocks)
	to := max(from, min(s.To, api.MaxBlocks))
	return m.counts[from:to], from
}
