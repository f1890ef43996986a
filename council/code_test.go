package council_test

import (
	"bytes"
	"math"
	"slices"
	"strings"
	"testing"

	"lamella/api"
	"lamella/council"
)

// P10.1: all texts that name nodes.
func TestVotersOfTexts(t *testing.T) {
	for bits := 1; bits < 128; bits++ {
		l := subset(bits)
		if got, ok := council.Voters(names(l...)); !ok || !slices.Equal(got, l) {
			t.Errorf("%v: %v, %v", l, got, ok)
		}
	}
}

// P10.1: texts that name none.
func TestVotersOfOtherTexts(t *testing.T) {
	for _, s := range []string{"", "\x07", "\x00\x07", "\x00\x00", "\x01\x00", "\x00\x02\x01", "\x00\x01\x01", "\xff", "\x00\xff", "0", "é",
		"\x00\x01\x02\x03\x04\x05\x06\x07", "\x00\x01\x02\x03\x04\x05\x06\x06", strings.Repeat("\x00", 5000)} {
		if got, ok := council.Voters(s); ok || len(got) != 0 {
			t.Errorf("%q: %v, %v", s[:min(9, len(s))], got, ok)
		}
	}
	for a := range 256 {
		for b := range 256 {
			_, ok := council.Voters(string([]byte{byte(a), byte(b)}))
			if ok != (a < b && b < 7) {
				t.Errorf("%d, %d: %v", a, b, ok)
			}
		}
	}
}

// P10.2: a new one.
func TestNew(t *testing.T) {
	for self := range 7 {
		for bits := 1; bits < 128; bits++ {
			l := subset(bits)
			c := begins(t, self, l...)
			keeps(t, "a new one", c, state{vote: -1, voters: names(l...)})
			has(t, "a new one", c, -1, 0, l...)
			if c.Leads() {
				t.Error("a new one leads")
			}
		}
	}
}

// P10.2: what New refuses.
func TestNewOfOthers(t *testing.T) {
	for _, x := range []struct {
		self  int
		nodes []int
	}{
		{-1, []int{0}}, {7, []int{0}}, {math.MinInt, []int{0}}, {math.MaxInt, []int{0}}, {256, []int{0}},
		{0, nil}, {0, []int{}}, {0, []int{-1}}, {0, []int{7}}, {0, []int{0, 0}}, {0, []int{1, 0}}, {0, []int{0, 256}},
		{0, []int{0, 1, 2, 3, 4, 5, 6, 7}}, {0, []int{0, 2, 1}}, {0, []int{-256, 1}}, {0, []int{0, math.MaxInt}}, {9, nil},
	} {
		if c, e := council.New(x.self, x.nodes); c != nil || e != api.ErrArg {
			t.Errorf("%d, %v: %v, error %d", x.self, x.nodes, c != nil, e)
		}
	}
}

// Rule 4: the voters that are handed in stay the caller's; those that are told are new memory.
func TestVotersMemory(t *testing.T) {
	l := []int{0, 1, 2, 9, 9}
	c := begins(t, 0, l[:3]...)
	l[0] = 5
	has(t, "behind a change of the argument", c, -1, 0, 0, 1, 2)
	c.Voters()[1] = 6
	has(t, "behind a change of the answer", c, -1, 0, 0, 1, 2)
	if l[3] != 9 || l[4] != 9 {
		t.Error("the spare room has changed")
	}
}

// states are some that may be kept, up to the limits.
func states() []state {
	long := strings.Repeat("x", 4096)
	return []state{
		{vote: -1, voters: names(0)},
		{vote: 0, voters: names(6)},
		{term: 3, vote: 6, voters: names(0, 1, 2, 3, 4, 5, 6), text: "state"},
		{term: 3, vote: -1, index: 9, past: 3, voters: names(1, 2), log: entries(none(3), change(3, "a"), voters(3, 0, 1, 2))},
		{term: 7, vote: 2, index: 9, past: 0, voters: names(1, 2), log: entries(none(0), change(4, ""), change(4, "b"), none(6), voters(7, 6))},
		{term: 2, vote: 1, index: 0, past: 2, voters: names(1), log: entries(change(2, long))},
		{term: 1, vote: 1, voters: names(1), text: strings.Repeat("y", api.MaxText)},
		{term: most, vote: 1, index: most, past: most, voters: names(1), log: entries(none(most), none(most))},
		{term: most, vote: 1, index: most, voters: names(1), log: rows(api.MaxList, none(0))},
		{term: 1, vote: -1, voters: names(1), log: entries(api.Entry{Term: 1, Text: "a text of Kind 0"}, api.Entry{Term: 1, Text: long})},
	}
}

// P10.2: what is kept comes back, and what isn't begins anew.
func TestLoad(t *testing.T) {
	for i, s := range states() {
		for self := range 7 {
			c := loads(t, self, s)
			keeps(t, "what was loaded", c, s)
			l := []byte(s.voters)
			for _, e := range s.log {
				if e.Kind == 2 {
					l = []byte(e.Text)
				}
			}
			var nodes []int
			for _, n := range l {
				nodes = append(nodes, int(n))
			}
			has(t, "what was loaded", c, -1, s.index, nodes...)
			if c.Leads() {
				t.Errorf("state %d: it leads", i)
			}
		}
	}
}

// P10.2: bytes that none has kept.
func TestLoadOfOthers(t *testing.T) {
	good := state{term: 5, vote: 1, index: 4, past: 2, voters: names(0, 1), text: "a", log: entries(none(3), change(5, "b"))}
	loads(t, 0, good)
	for what, spoil := range map[string]func(s *state){
		"a term below 0":             func(s *state) { s.term = -1 },
		"a term below an entry's":    func(s *state) { s.term = 4 },
		"a term above all":           func(s *state) { s.term = most + 1 },
		"a vote below -1":            func(s *state) { s.vote = -2 },
		"a vote for no node":         func(s *state) { s.vote = 7 },
		"a vote far out":             func(s *state) { s.vote = math.MaxInt },
		"an index below 0":           func(s *state) { s.index = -1 },
		"an index above all":         func(s *state) { s.index = most + 1 },
		"a base's term below 0":      func(s *state) { s.past = -1 },
		"a base's term above a next": func(s *state) { s.past = 4 },
		"a base's term above":        func(s *state) { s.past, s.log = 6, nil },
		"a base's term far out":      func(s *state) { s.past = math.MaxInt },
		"no voters":                  func(s *state) { s.voters = "" },
		"voters that don't rise":     func(s *state) { s.voters = names(1, 0) },
		"a voter that is none":       func(s *state) { s.voters = names(1, 7) },
		"a text that is too long":    func(s *state) { s.text = strings.Repeat("a", api.MaxText+1) },
		"an entry that falls":        func(s *state) { s.log = entries(none(4), none(3)) },
		"an entry below the base":    func(s *state) { s.log = entries(none(1)) },
		"an entry below 0":           func(s *state) { s.past, s.log = 0, entries(none(-1)) },
		"an entry above the term":    func(s *state) { s.log = entries(none(6)) },
		"a Kind below 0":             func(s *state) { s.log = entries(api.Entry{Term: 3, Kind: -1}) },
		"a Kind above 2":             func(s *state) { s.log = entries(api.Entry{Term: 3, Kind: 3}) },
		"a long text":                func(s *state) { s.log = entries(change(3, strings.Repeat("a", 4097))) },
		"a long text of Kind 0":      func(s *state) { s.log = entries(api.Entry{Term: 3, Text: strings.Repeat("a", 4097)}) },
		"an entry of no voters":      func(s *state) { s.log = entries(voters(3)) },
		"an entry of other voters":   func(s *state) { s.log = entries(voters(3, 2, 1)) },
		"one entry too many":         func(s *state) { s.log = rows(api.MaxList+1, none(3)) },
	} {
		s := good
		spoil(&s)
		notLoaded(t, what, s.bytes())
	}
}

func notLoaded(t *testing.T, what string, b []byte) {
	t.Helper()
	if c, e := council.Load(0, b); c != nil || e != api.ErrCode {
		t.Errorf("%s: %v, error %d", what, c != nil, e)
	}
	for _, self := range []int{-1, 7, math.MaxInt} {
		if c, e := council.Load(self, b); c != nil || e != api.ErrArg {
			t.Errorf("%s, self %d: %v, error %d", what, self, c != nil, e)
		}
	}
}

// P10.2: cut off, with something behind, with a number that stands another way.
func TestLoadOfOtherBytes(t *testing.T) {
	for _, s := range states()[:5] {
		b := s.bytes()
		for k := range b {
			notLoaded(t, "a beginning", b[:k])
		}
		notLoaded(t, "something behind", append(slices.Clone(b), 0))
		notLoaded(t, "another number", append([]byte{0, 128}, b[1:]...))
		notLoaded(t, "no sign", append([]byte{2}, b[1:]...))
	}
	notLoaded(t, "nothing", nil)
	for _, self := range []int{-1, 7} {
		if c, e := council.Load(self, states()[0].bytes()); c != nil || e != api.ErrArg {
			t.Errorf("self %d: %v, error %d", self, c != nil, e)
		}
	}
}

// P10.2: what is loaded is just what would be kept; and it is the caller's.
func TestLoadOfDrawnBytes(t *testing.T) {
	d := newDice(1)
	loaded := 0
	all := states()
	for range 20000 {
		b := all[d.Intn(5)].bytes()
		for range 1 + d.Intn(3) {
			b[d.Intn(len(b))] = byte(d.Intn(256) >> d.Intn(8))
		}
		was := slices.Clone(b)
		c, e := council.Load(d.Intn(7), b)
		if !bytes.Equal(b, was) {
			t.Fatal("Load has changed its bytes")
		}
		if e != api.OK {
			continue
		}
		loaded++
		clear(b)
		if !bytes.Equal(c.Encode(), was) {
			t.Fatalf("% x is loaded as % x", was, c.Encode())
		}
		x := c.Encode()
		clear(x[:cap(x)])
		if !bytes.Equal(c.Encode(), was) {
			t.Fatal("Encode shares its memory")
		}
	}
	if loaded < 1000 || loaded > 19000 {
		t.Errorf("%d of 20000 are loaded", loaded)
	}
}

// P10.11
func TestNil(t *testing.T) {
	var c *council.Council
	if len(c.Encode()) != 0 || c.Leads() || c.Leader() != -1 || c.Term() != 0 || c.Last() != 0 || c.Told() != 0 || len(c.Voters()) != 0 {
		t.Error("a nil Council tells something")
	}
	for _, m := range []api.Mail{{}, vote(1, 0, 1, 0, 0), appends(1, 0, 1, 0, 0, 0), snap(1, 0, 1, 1, 1, "", 0)} {
		asksNothing(t, "Hear of a nil Council", c.Hear(m))
	}
	asksNothing(t, "Tick of a nil Council", c.Tick())
	for kind := range 4 {
		w, e := c.Offer(kind, strings.Repeat("a", 5000*(kind%2)))
		asksNothing(t, "Offer of a nil Council", w)
		if e != api.ErrNone {
			t.Errorf("Offer of a nil Council: error %d", e)
		}
	}
	for _, i := range []int{-1, 0, 1} {
		w, e := c.Compact(i, strings.Repeat("a", api.MaxText+1))
		asksNothing(t, "Compact of a nil Council", w)
		if e != api.ErrNone {
			t.Errorf("Compact of a nil Council: error %d", e)
		}
	}
}

// P10.3: voters are those of the last entry of Kind 2, whether or not it is committed.
func TestVotersOfTheLog(t *testing.T) {
	s := state{term: 1, vote: -1, voters: names(0, 1), log: entries(none(1))}
	has(t, "none in the log", loads(t, 3, s), -1, 0, 0, 1)
	s.log = append(s.log, voters(1, 0, 1, 2), change(1, names(5)), api.Entry{Term: 1, Text: names(6)})
	has(t, "one in the log", loads(t, 3, s), -1, 0, 0, 1, 2)
	s.log = append(s.log, voters(1, 4), none(1))
	has(t, "two in the log", loads(t, 3, s), -1, 0, 4)
}
