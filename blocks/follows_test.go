package blocks_test

import (
	"math/rand"
	"slices"
	"testing"

	"lamella/api"
	"lamella/blocks"
)

// model is a store told the plainest way: each block's text and marks by its number.
type model struct {
	from, to int
	frozen   bool
	texts    map[int]string
	marks    map[[2]int]int // of a block and a client
}

func modelOf(from, to int) *model {
	return &model{from: from, to: to, texts: map[int]string{}, marks: map[[2]int]int{}}
}

// apply is P5.4 of a command that may be.
func (m *model) apply(c api.Cmd) (api.Reply, api.Errno) {
	if c.Op != api.OpNone && c.Op != api.OpFreeze && (c.From < m.from || c.To > m.to) {
		return api.Reply{}, api.ErrRange
	}
	if m.frozen {
		return api.Reply{}, api.OK
	}
	r := api.Reply{Ok: true}
	m.frozen = c.Op == api.OpFreeze
	for block := c.From; block < c.To; block++ {
		switch {
		case c.Op == api.OpRead:
			r.Data = append(r.Data, m.texts[block])
		case c.Op == api.OpFlush || m.marks[[2]int{block, c.Client}] >= c.Seq:
		case c.Op == api.OpWrite:
			m.texts[block], m.marks[[2]int{block, c.Client}] = c.Data[block-c.From], c.Seq
		case c.Op == api.OpTrim:
			m.texts[block], m.marks[[2]int{block, c.Client}] = "", c.Seq
		}
	}
	return r, api.OK
}

func (m *model) cells() []cell {
	l := make([]cell, m.to-m.from)
	for i := range l {
		l[i].text = m.texts[m.from+i]
		for client := range l[i].marks {
			l[i].marks[client] = m.marks[[2]int{m.from + i, client}]
		}
	}
	return l
}

// drawn is a command that may be, on blocks from 0 to before 8, mostly a client's.
func drawn(d *rand.Rand, freeze int) api.Cmd {
	if d.Intn(20) == 0 {
		return api.Cmd{}
	}
	if d.Intn(100) < freeze {
		return api.Cmd{Op: api.OpFreeze}
	}
	from := d.Intn(8)
	c := asked(clientsOps[d.Intn(4)], d.Intn(4), 1+d.Intn(6), from, from+1+d.Intn(8-from))
	for i := range c.Data {
		c.Data[i] = []string{"", "a", "b", "cc", full, hollow}[d.Intn(6)]
	}
	return c
}

func sameReply(a, b api.Reply) bool { return a.Ok == b.Ok && slices.Equal(a.Data, b.Data) }

// P5.4: long rows of commands, held against the plain model.
func TestAgainstTheModel(t *testing.T) {
	d := dice()
	for run := range 400 {
		from := d.Intn(3)
		to := from + 1 + d.Intn(8-from)
		s, m := begun(t, from, to), modelOf(from, to)
		for i := range 60 {
			c := drawn(d, 1)
			r, e := s.Apply(c)
			want, f := m.apply(c)
			if e != f || !sameReply(r, want) {
				t.Fatalf("run %d, command %d, %s: Ok %v, %.20q, error %d, want %v, %.20q, error %d", run, i, short(c), r.Ok, r.Data, e, want.Ok, want.Data, f)
			}
		}
		has(t, "the end of a run", s, from, m.frozen, m.cells()...)
		same(t, "there and back", true, s, decoded(t, s.Encode()))
		if t.Failed() {
			t.FailNow()
		}
	}
}

// nothingAndFreeze: are they OpNone and OpFreeze? By P5.2 they don't meddle, and yet the reply of OpNone tells by P5.4 which came first.
func nothingAndFreeze(a, b api.Cmd) bool {
	return a.Op == api.OpNone && b.Op == api.OpFreeze || a.Op == api.OpFreeze && b.Op == api.OpNone
}

// P5.8: on any store, commands that don't meddle may change places, and reply the same.
func TestWhatDoesntMeddleChangesPlaces(t *testing.T) {
	d := dice()
	changed := 0
	for range 20000 {
		s := begun(t, 0, 8)
		for range d.Intn(8) {
			s.Apply(drawn(d, 2))
		}
		a, b := drawn(d, 5), drawn(d, 5)
		if blocks.Meddle(a, b) {
			continue
		}
		changed++
		other := s.Clone()
		ra, _ := s.Apply(a)
		rb, _ := s.Apply(b)
		otherB, _ := other.Apply(b)
		otherA, _ := other.Apply(a)
		if !blocks.Same(s, other) {
			t.Fatalf("%s and %s may not change places: the stores", short(a), short(b))
		}
		if !nothingAndFreeze(a, b) && !(sameReply(ra, otherA) && sameReply(rb, otherB)) {
			t.Fatalf("%s and %s may not change places: the replies", short(a), short(b))
		}
	}
	if changed < 3000 {
		t.Error("hardly any changed places", changed)
	}
}

// P5.8: a row of commands may be sorted in any way that leaves those that meddle in their order.
func TestRowsChangePlaces(t *testing.T) {
	d := dice()
	for range 500 {
		row := make([]api.Cmd, 12)
		for i := range row {
			row[i] = drawn(d, 1)
		}
		other := slices.Clone(row)
		for range 100 {
			i := d.Intn(len(other) - 1)
			if !blocks.Meddle(other[i], other[i+1]) {
				other[i], other[i+1] = other[i+1], other[i]
			}
		}
		a, b := begun(t, 0, 8), begun(t, 0, 8)
		for i := range row {
			a.Apply(row[i])
			b.Apply(other[i])
		}
		same(t, "another order", true, a, b)
	}
}

// P5.9: what is applied once more has no effect, whatever has come between.
func TestCommandsAgain(t *testing.T) {
	d := dice()
	for range 5000 {
		s := begun(t, 0, 8)
		var done []api.Cmd
		for range 1 + d.Intn(8) {
			c := drawn(d, 0)
			does(t, s, c)
			done = append(done, c)
		}
		was := s.Clone()
		for range 5 {
			does(t, s, done[d.Intn(len(done))])
		}
		same(t, "again", true, s, was)
	}
}

// P5.9: behind a later one of its client a command has no effect on the blocks that the later one took, and has it on others.
func TestCommandsTooLate(t *testing.T) {
	for _, later := range []api.Cmd{write(1, 5, 2, "x", "y"), command(api.OpTrim, 1, 5, 2, 4)} {
		for _, late := range []api.Cmd{write(1, 4, 1, "p", "q", "r", "s"), command(api.OpTrim, 1, 1, 1, 5), write(1, 5, 1, "p", "q", "r", "s")} {
			s := begun(t, 0, 6)
			does(t, s, write(0, 1, 0, "0", "1", "2", "3", "4", "5"))
			does(t, s, later, late)
			m := modelOf(0, 6)
			m.apply(write(0, 1, 0, "0", "1", "2", "3", "4", "5"))
			m.apply(later)
			m.apply(late)
			has(t, short(late), s, 0, false, m.cells()...)
			for block := 2; block < 4; block++ {
				text, _ := s.Block(block)
				mark, _ := s.Mark(block, 1)
				if mark != 5 || later.Op == api.OpTrim && text != "" || later.Op == api.OpWrite && text != later.Data[block-2] {
					t.Errorf("%s behind %s: block %d is %q, mark %d", short(late), short(later), block, text, mark)
				}
			}
			for _, block := range []int{1, 4} {
				if mark, _ := s.Mark(block, 1); mark != late.Seq {
					t.Errorf("%s: block %d has the mark %d", short(late), block, mark)
				}
			}
		}
	}
}

// P5.10: what is parted, in any way, and merged is the same, and not frozen.
func TestPartedAndMerged(t *testing.T) {
	d := dice()
	for range 3000 {
		from := d.Intn(3)
		s := begun(t, from, 8)
		for range d.Intn(10) {
			s.Apply(drawn(d, 0))
		}
		whole := s.Clone()
		if d.Intn(2) == 0 {
			frozen(t, whole)
		}
		var parts []*blocks.Store
		for at := from; at < 8; {
			next := at + 1 + d.Intn(8-at)
			parts = append(parts, part(t, whole, at, next))
			at = next
		}
		same(t, "parted and merged", true, merged(t, parts...), s)
	}
}

// P5.10: a command that is done on a part, and the parts merged, is as if it was done on the whole; blocks elsewhere stay.
func TestDoneOnAPart(t *testing.T) {
	d := dice()
	for range 3000 {
		s := begun(t, 0, 8)
		for range d.Intn(8) {
			s.Apply(drawn(d, 0))
		}
		c := drawn(d, 0)
		if c.Op == api.OpNone || c.To-c.From == 8 {
			continue
		}
		was := s.Clone()
		p := part(t, s, c.From, c.To)
		r, _ := p.Apply(c)
		parts := []*blocks.Store{p}
		if c.From > 0 {
			parts = append([]*blocks.Store{part(t, s, 0, c.From)}, parts...)
		}
		if c.To < 8 {
			parts = append(parts, part(t, s, c.To, 8))
		}
		want, _ := s.Apply(c)
		if !sameReply(r, want) {
			t.Fatalf("%s: a part replies %v %.20q, the whole %v %.20q", short(c), r.Ok, r.Data, want.Ok, want.Data)
		}
		same(t, "done on a part", true, merged(t, parts...), s)
		if c.From > 0 {
			same(t, "ahead of it", true, part(t, s, 0, c.From), part(t, was, 0, c.From))
		}
		if c.To < 8 {
			same(t, "behind it", true, part(t, s, c.To, 8), part(t, was, c.To, 8))
		}
	}
}
