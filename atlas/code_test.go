package atlas_test

import (
	"bytes"
	"math"
	"slices"
	"testing"

	"lamella/api"
	"lamella/atlas"
	"lamella/octet"
)

// P11.4
func TestLay(t *testing.T) {
	for _, c := range []struct {
		change api.Change
		want   string
	}{
		{api.Change{}, "\x00\x00\x00\x00\x00\x00\x00\x00\x00\x00\x00\x00"},
		{split(3, 300), "\x00\x01\x00\x03\x00\x00\x00\x82\x2c\x00\x00\x00\x00"},
		{api.Change{Kind: 1, Shard: 2, Other: 3, At: 4, Out: 5, In: 6}, "\x00\x01\x00\x02\x00\x03\x00\x04\x00\x05\x00\x06"},
		{api.Change{Kind: -1, In: -300}, "\x01\x00\x00\x00\x00\x00\x00\x00\x00\x00\x01\x82\x2b"},
	} {
		if s := atlas.Lay(c.change); s != c.want {
			t.Errorf("Lay of %v: %q, want %q", c.change, s, c.want)
		}
		if x, e := atlas.Take(c.want); e != api.OK || x != c.change {
			t.Errorf("Take of %q: %v, error %d", c.want, x, e)
		}
	}
}

// P11.4: each change comes back, whatever its numbers are.
func TestTakeOfEachChange(t *testing.T) {
	d := dice(4)
	some := func() int {
		return []int{0, 1, -1, 2, 5, 6, 127, 128, -128, -129, math.MaxInt, math.MinInt, d.Int(), -d.Int()}[d.Intn(14)]
	}
	for range 2000 {
		c := api.Change{Kind: some(), Shard: some(), Other: some(), At: some(), Out: some(), In: some()}
		want := slices.Concat(number(c.Kind), number(c.Shard), number(c.Other), number(c.At), number(c.Out), number(c.In))
		s := atlas.Lay(c)
		if s != string(want) {
			t.Errorf("Lay of %v: %q, want %q", c, s, want)
		}
		if x, e := atlas.Take(s); e != api.OK || x != c {
			t.Errorf("Take of the Lay of %v: %v, error %d", c, x, e)
		}
	}
}

// P11.4
func TestTakeOfOtherTexts(t *testing.T) {
	s := atlas.Lay(replace(300, 1, 2))
	wrong := []string{"", "a", s + "\x00", s + s, "\x02" + s[1:], s[:len(s)-1] + "\x80", "\x00\x80\x01" + s[2:], "\x00\x82" + s[2:]}
	for i := range s {
		wrong = append(wrong, s[:i])
	}
	for _, w := range wrong {
		if c, e := atlas.Take(w); e != api.ErrCode || c != (api.Change{}) {
			t.Errorf("Take of %q: %v, error %d", w, c, e)
		}
	}
}

// P11.4
func TestEncode(t *testing.T) {
	a := begun(t, 200, 0, 1, 2)
	want := []byte{0x81, 0x48, 1, 2, 0, 1, 1, 0, 0x81, 0x48, 3, 0, 1, 2, 0}
	if b := a.Encode(); !bytes.Equal(b, want) {
		t.Errorf("% x, want % x", b, want)
	}
	does(t, a, split(1, 130))
	past := []byte{1, 1, 0, 0x81, 0x48, 3, 0, 1, 2}
	want = slices.Concat([]byte{0x81, 0x48, 2, 4, 2, 2, 3, 2},
		[]byte{2, 0, 0x81, 2, 3, 0, 1, 2}, past,
		[]byte{3, 0x81, 2, 0x81, 0x48, 3, 0, 1, 2}, past)
	if b := a.Encode(); !bytes.Equal(b, want) {
		t.Errorf("% x, want % x", b, want)
	}
}

// sample is a state with all that there can be.
func sample() state {
	return state{20, 9, 12, nodes(9, 11), []api.Shard{
		part(11, 0, 4, nodes(0, 1, 2), was(3, 0, 2, 0, 1, 2), was(10, 2, 6, 4)),
		part(4, 4, 5, nodes(6)),
		part(9, 5, 20, nodes(0, 1, 2, 3, 4, 5, 6), was(8, 5, 20, 1, 3, 5)),
	}}
}

// P11.4: what is at the edges, and just may be.
func TestDecodeAtTheEdges(t *testing.T) {
	is(t, "the sample", loaded(t, sample()), sample())
	for i, change := range []func(*state){
		func(s *state) { s.epoch = 1 },
		func(s *state) { s.epoch = top + 2 },
		func(s *state) { s.next = top + 2 },
		func(s *state) { s.open = nil },
		func(s *state) { s.open = nodes(4, 9, 11) },
		func(s *state) { s.shards[1].Id, s.shards[2].Id, s.open = 1, top+1, nil; s.next = top + 2 },
		func(s *state) { s.shards[0].Past = nil },
		func(s *state) { s.shards[0].Past[0].Id = 1 },
		func(s *state) { s.shards[0].Past[0].Id = 9 },               // the number of one that there is
		func(s *state) { s.shards[0].Past[0].Id = 10 },              // the other one's
		func(s *state) { s.shards[2].Past[0].Span = one(0, 1) },     // other blocks
		func(s *state) { s.shards[2].Past[0].Span = one(900, 901) }, // and such as there aren't
		func(s *state) { s.shards[2].Past[0].Span = one(0, math.MaxInt) },
		func(s *state) { *s = first(1, 0) },
		func(s *state) { *s = first(api.MaxBlocks, 6) },
	} {
		s := sample()
		change(&s)
		a, e := atlas.Decode(s.bytes())
		if e != api.OK {
			t.Errorf("change %d: error %d", i, e)
			continue
		}
		is(t, "at the edge", a, s)
	}
}

// P11.4: what may not be.
func TestDecodeOfNoMaps(t *testing.T) {
	for i, change := range []func(*state){
		func(s *state) { s.blocks = 0 },
		func(s *state) { s.blocks = 0; s.open, s.shards = nil, nil },
		func(s *state) { *s = first(257, 0) },
		func(s *state) { *s = first(math.MaxInt, 0) },
		func(s *state) { s.blocks = -1 },
		func(s *state) { s.epoch = 0 },
		func(s *state) { s.epoch = top + 3 },
		func(s *state) { s.epoch = -1 },
		func(s *state) { s.next = top + 3 },
		func(s *state) { s.next = -1 },
		func(s *state) { s.next = 11 }, // not above a shard's
		func(s *state) { s.next = 2 },
		func(s *state) { *s = first(10, 0); s.next = 1 },
		func(s *state) { *s = first(10, 0); s.next = 0 },
		func(s *state) { s.open = nodes(11, 9) },
		func(s *state) { s.open = nodes(9, 9) },
		func(s *state) { s.open = nodes(3) }, // a past one
		func(s *state) { s.open = nodes(0) },
		func(s *state) { s.open = nodes(9, 11, 12) },
		func(s *state) { s.open = nodes(-1) },
		func(s *state) { s.shards = nil },
		func(s *state) { s.shards, s.open = nil, nil },
		func(s *state) { s.shards, s.open = s.shards[:2], nil },
		func(s *state) { s.shards, s.open = s.shards[1:], nil },
		func(s *state) { s.blocks = 19 },
		func(s *state) { s.blocks = 21 },
		func(s *state) { s.shards[0].Span.From = 1 },
		func(s *state) { s.shards[0].Span.From = -1 },
		func(s *state) { s.shards[0].Span.To = 3 },
		func(s *state) { s.shards[0].Span.To = 5 },
		func(s *state) { s.shards[1].Span, s.shards[0].Span.To = one(5, 5), 5 },
		func(s *state) { s.shards[1].Span = one(4, 3); s.shards[2].Span.From = 3 },
		func(s *state) { s.shards[2].Span.To = 21 },
		func(s *state) { s.shards[2].Span.To = -1 },
		func(s *state) { s.shards = append(s.shards, part(5, 20, 20, nodes(0))) },
		func(s *state) { s.shards = append(s.shards, part(5, 20, 21, nodes(0))) },
		func(s *state) { s.shards[0], s.shards[1] = s.shards[1], s.shards[0] },
		func(s *state) { s.shards[1].Id = 0 },
		func(s *state) { s.shards[1].Id = -1 },
		func(s *state) { s.shards[1].Id = 12 },
		func(s *state) { s.shards[1].Id = 9 },
		func(s *state) { s.shards[1].Id = 11 },
		func(s *state) { s.shards[1].Members = nil },
		func(s *state) { s.shards[1].Members = nodes(7) },
		func(s *state) { s.shards[1].Members = nodes(255) },
		func(s *state) { s.shards[1].Members = nodes(0, 1) },
		func(s *state) { s.shards[1].Members = nodes(0, 2, 1) },
		func(s *state) { s.shards[1].Members = nodes(0, 2, 2) },
		func(s *state) { s.shards[0].Past = append(s.shards[0].Past, was(5, 6, 7, 0)) }, // three
		func(s *state) { s.shards[0].Past[0].Span = one(2, 2) },
		func(s *state) { s.shards[0].Past[0].Span = one(3, 2) },
		func(s *state) { s.shards[0].Past[1].Span = one(2, 2) },
		func(s *state) { s.shards[0].Past[0].Span = one(-1, 2) },
		func(s *state) { s.shards[0].Past[0].Span = one(math.MinInt, 2) },
		func(s *state) { s.shards[0].Past[1].Span = one(3, 6) }, // a gap
		func(s *state) { s.shards[0].Past[1].Span = one(1, 6) }, // over the other one
		func(s *state) { slices.Reverse(s.shards[0].Past) },
		func(s *state) { s.shards[0].Past[0].Id = 0 },
		func(s *state) { s.shards[0].Past[0].Id = -1 },
		func(s *state) { s.shards[0].Past[1].Id = 11 },
		func(s *state) { s.shards[0].Past[1].Id = 12 },
		func(s *state) { s.shards[2].Past[0].Id = 9 },
		func(s *state) { s.shards[2].Past[0].Id = 10 },
		func(s *state) { s.shards[2].Past[0].Members = nil },
		func(s *state) { s.shards[2].Past[0].Members = nodes(0, 1) },
		func(s *state) { s.shards[2].Past[0].Members = nodes(7) },
		func(s *state) { s.shards[2].Past[0].Members = nodes(3, 2, 1) },
	} {
		s := sample()
		change(&s)
		isNone(t, i, s.bytes())
	}
	// More shards than blocks; more than a list has.
	isNone(t, 257, state{256, 9, 900, nil, slices.Repeat([]api.Shard{part(1, 0, 256, nodes(0))}, 257)}.bytes())
	isNone(t, 5000, state{256, 9, 9000, nil, slices.Repeat([]api.Shard{part(1, 0, 256, nodes(0))}, 5000)}.bytes())
}

func isNone(t *testing.T, what int, b []byte) {
	t.Helper()
	if a, e := atlas.Decode(b); a != nil || e != api.ErrCode {
		t.Errorf("case %d: %v, error %d of % x", what, a, e, b[:min(len(b), 60)])
	}
}

// P11.4: bytes that are cut off, or longer.
func TestDecodeOfParts(t *testing.T) {
	isNone(t, -1, nil)
	for i, s := range []state{sample(), first(10, 0, 1, 2)} {
		b := s.bytes()
		for n := range b {
			isNone(t, i, b[:n])
		}
		for _, c := range []byte{0, 1, 255} {
			isNone(t, i, append(slices.Clone(b), c))
		}
		isNone(t, i, slices.Concat(b, b))
		isNone(t, i, append([]byte{128}, b...)) // a number that could be shorter
	}
}

// parsed is the state that bytes tell, if they tell one at all.
func parsed(b []byte) (state, bool) {
	r := octet.NewReader(b)
	num := func(r *octet.Reader) int { return int(r.Num()) }
	origin := func(r *octet.Reader) api.Origin {
		o := was(num(r), num(r), num(r))
		for _, c := range []byte(r.Text()) {
			o.Members = append(o.Members, int(c))
		}
		return o
	}
	s := state{blocks: num(r), epoch: num(r), next: num(r), open: octet.Get(r, num)}
	s.shards = octet.Get(r, func(r *octet.Reader) api.Shard {
		o := origin(r)
		return part(o.Id, o.Span.From, o.Span.To, o.Members, octet.Get(r, origin)...)
	})
	return s, r.End()
}

// mayBe is P11.4's list of what a map is, word by word.
func mayBe(s state) bool {
	ok := s.blocks >= 1 && s.blocks <= 256 && s.epoch >= 1 && s.next >= 2 && s.epoch <= top+2 && s.next <= top+2 && len(s.shards) <= 256 && len(s.shards) > 0
	seen := map[int]bool{}
	for i, x := range s.shards {
		ahead := 0
		if i > 0 {
			ahead = s.shards[i-1].Span.To
		}
		ok = ok && x.Span.From == ahead && x.Span.From < x.Span.To && x.Id >= 1 && x.Id < s.next && !seen[x.Id]
		ok = ok && atlas.IsMembers(x.Members) && len(x.Past) <= 2
		seen[x.Id] = true
		for k, o := range x.Past {
			ok = ok && o.Span.From >= 0 && o.Span.From < o.Span.To && o.Id >= 1 && o.Id < x.Id && atlas.IsMembers(o.Members)
			ok = ok && (k == 0 || x.Past[k-1].Span.To == o.Span.From)
		}
	}
	for i, id := range s.open {
		ok = ok && seen[id] && (i == 0 || s.open[i-1] < id)
	}
	return ok && s.shards[len(s.shards)-1].Span.To == s.blocks
}

// P11.4: of drawn bytes those alone are maps that the list says are, and they are the ones of which they are the Encode.
func TestDecodeOfDrawnBytes(t *testing.T) {
	d := dice(5)
	maps := 0
	for range 40000 {
		b := sample().bytes()
		if d.Intn(3) == 0 {
			_, s := grown(t, d, 6)
			b = s.bytes()
		}
		for range 1 + d.Intn(3) {
			at := d.Intn(len(b))
			switch d.Intn(4) {
			case 0, 1:
				b[at] += byte(d.Intn(5) - 2)
			case 2:
				b[at] = byte(d.Intn(256))
			case 3:
				b = slices.Insert(b, at, byte(d.Intn(8)))
			}
		}
		s, ok := parsed(b)
		if !ok || !mayBe(s) {
			isNone(t, 0, b)
			continue
		}
		maps++
		a, e := atlas.Decode(b)
		if e != api.OK || !bytes.Equal(a.Encode(), b) {
			t.Fatalf("Decode of % x: error %d", b, e)
		}
		tells(t, "drawn", a, s)
	}
	if maps < 1000 {
		t.Errorf("only %d of the drawn bytes are maps", maps)
	}
}
