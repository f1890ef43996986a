package blocks_test

import (
	"math"
	"slices"
	"strings"
	"testing"

	"lamella/api"
	"lamella/blocks"
)

// Example 1 of the chapter: P5.4.
func TestExample(t *testing.T) {
	s := begun(t, 0, 4)
	does(t, s, write(1, 1, 0, "a", "b"), write(1, 1, 0, "a", "b"), write(1, 1, 1, "c"))
	has(t, "client 1", s, 0, false, cell{"a", [4]int{0, 1}}, cell{"b", [4]int{0, 1}}, cell{}, cell{})
	does(t, s, write(2, 1, 1, "c"))
	has(t, "client 2", s, 0, false, cell{"a", [4]int{0, 1}}, cell{"c", [4]int{0, 1, 1}}, cell{}, cell{})
}

// P5.3
func TestNew(t *testing.T) {
	for _, s := range []api.Span{{From: 0, To: 1}, {From: 0, To: 256}, {From: 255, To: 256}, {From: 3, To: 40}} {
		has(t, "a new one", begun(t, s.From, s.To), s.From, false, make([]cell, s.To-s.From)...)
	}
	for _, s := range []api.Span{
		{}, {From: 1, To: 1}, {From: 2, To: 1}, {From: 256, To: 256}, {From: -1, To: 1}, {From: -1, To: 0}, {From: -2, To: -1}, {From: 0, To: 257},
		{From: 256, To: 257}, {From: 300, To: 301}, {From: 1, To: 0}, {From: 0, To: -1},
		{From: math.MinInt, To: math.MaxInt}, {From: math.MaxInt, To: math.MinInt}, {From: 0, To: math.MaxInt}, {From: math.MinInt, To: 1}, {From: math.MinInt, To: math.MinInt + 1},
	} {
		got, e := blocks.New(s)
		refused(t, "New", api.ErrArg, got, e)
	}
}

// P5.3
func TestBlockAndMark(t *testing.T) {
	s := made(t)
	has(t, "made", s, 2, false, madeCells()...)
	for _, block := range []int{1, 6, 0, -1, 256, math.MinInt, math.MaxInt} {
		text, e := s.Block(block)
		if text != "" {
			t.Errorf("block %d: %.20q", block, text)
		}
		says(t, "Block", e, api.ErrRange)
		for _, client := range []int{0, 3, 4, -1} {
			seq, e := s.Mark(block, client)
			if seq != 0 {
				t.Errorf("block %d: %d", block, seq)
			}
			says(t, "Mark of a block that there isn't", e, api.ErrRange)
		}
	}
	for _, client := range []int{-1, 4, 5, 100, math.MinInt, math.MaxInt} {
		for block := 2; block < 6; block++ {
			seq, e := s.Mark(block, client)
			if seq != 0 {
				t.Errorf("client %d: %d", client, seq)
			}
			says(t, "Mark of a client that there isn't", e, api.ErrArg)
		}
	}
}

// P5.1: all texts of a block's length are kept as they are.
func TestTexts(t *testing.T) {
	texts := []string{"", "a", full, hollow, "\x00\x00a", strings.Repeat("\xff", 4096), full[:4095], "a\x00b"}
	s := begun(t, 10, 20)
	does(t, s, write(0, 1, 11, texts...))
	replies(t, s, command(api.OpRead, 1, 1, 11, 19), true, texts...)
	for i, want := range texts {
		if got, e := s.Block(11 + i); got != want || e != api.OK {
			t.Errorf("block %d is %.20q, error %d", 11+i, got, e)
		}
	}
}

// P5.4: what may not be isn't done, and is asked ahead of the blocks.
func TestApplyOfWhatMayNotBe(t *testing.T) {
	s := made(t)
	for _, c := range []api.Cmd{
		{Op: api.OpNone, Seq: 1}, {Op: api.OpFreeze, To: 1}, {Op: api.OpFreeze, Client: 1}, {Op: 6}, {Op: -1},
		command(9, 1, 9, 2, 3), write(4, 9, 2, "x"), write(-1, 9, 2, "x"), write(1, 0, 2, "x"), write(1, 1<<40+1, 2, "x"),
		write(1, 9, 2), command(api.OpTrim, 1, 9, 4, 4), command(api.OpRead, 1, 9, 5, 3), write(1, 9, 2, "x\x00"), write(1, 9, 2, full+"f"), write(1, 9, 2, "x", "y\x00"),
		changed(write(1, 9, 2, "x", "y"), func(c *api.Cmd) { c.To = 3 }), changed(write(1, 9, 2, "x"), func(c *api.Cmd) { c.Op = api.OpTrim }),
		write(1, 9, -1, "x"), write(1, 9, 256, "x"), write(4, 9, 9, "x"), command(api.OpRead, 1, 9, 0, 17), command(api.OpRead, 1, 9, math.MinInt, math.MaxInt),
	} {
		refuses(t, s, c, api.ErrArg)
	}
	has(t, "behind them", s, 2, false, madeCells()...)
}

// P5.4: all of its blocks must be the store's.
func TestApplyElsewhere(t *testing.T) {
	s := made(t)
	for _, op := range clientsOps {
		for from := range 10 {
			for to := from + 1; to < 10; to++ {
				c := asked(op, 1, 900, from, to)
				if from >= 2 && to <= 6 {
					does(t, s.Clone(), c)
				} else {
					refuses(t, s, c, api.ErrRange)
				}
			}
		}
		refuses(t, s, asked(op, 0, 900, 255, 256), api.ErrRange)
		refuses(t, s, asked(op, 0, 900, 0, 16), api.ErrRange)
	}
	has(t, "behind them", s, 2, false, madeCells()...)
	away := begun(t, 100, 101)
	replies(t, away, api.Cmd{}, true)
	replies(t, away, api.Cmd{Op: api.OpFreeze}, true)
	has(t, "away", away, 100, true, cell{})
}

// P5.4
func TestApplyOfWhatLeavesBlocks(t *testing.T) {
	s := made(t)
	replies(t, s, api.Cmd{}, true)
	for _, seq := range []int{1, 7, 8, 1 << 40} {
		replies(t, s, command(api.OpFlush, 1, seq, 2, 6), true)
		replies(t, s, command(api.OpRead, 1, seq, 2, 6), true, "a", "", full, "")
		replies(t, s, command(api.OpRead, 3, seq, 4, 5), true, full)
		replies(t, s, command(api.OpRead, 0, seq, 3, 4), true, "")
	}
	has(t, "behind them", s, 2, false, madeCells()...)
}

// P5.4: a write and a trim have no texts to tell, and touch those blocks alone whose mark is below.
func TestApplyOfWritesAndTrims(t *testing.T) {
	s := made(t)
	want := madeCells()
	replies(t, s, write(1, 7, 2, "b", "c", "d"), true)
	want[1], want[2] = cell{"c", [4]int{0, 7}}, cell{"d", [4]int{300, 7, 0, 1 << 40}}
	has(t, "a write that comes too late for one block", s, 2, false, want...)
	replies(t, s, command(api.OpTrim, 0, 299, 2, 6), true)
	want[0], want[1] = cell{"", [4]int{299, 7}}, cell{"", [4]int{299, 7}}
	has(t, "a trim that comes too late for two blocks", s, 2, false, want...)
	replies(t, s, command(api.OpTrim, 0, 300, 4, 5), true)
	has(t, "a trim of the same number", s, 2, false, want...)
	replies(t, s, command(api.OpTrim, 0, 301, 4, 5), true)
	want[2] = cell{"", [4]int{301, 7, 0, 1 << 40}}
	has(t, "a trim of the next number", s, 2, false, want...)
	replies(t, s, write(2, 1<<40, 5, ""), true)
	want[3] = cell{"", [4]int{300, 0, 1 << 40, 0}}
	has(t, "a write of nothing", s, 2, false, want...)
	replies(t, s, write(3, 1, 5, hollow), true)
	want[3] = cell{hollow, [4]int{300, 0, 1 << 40, 1}}
	has(t, "a small number of another client", s, 2, false, want...)
}

// P5.4: the marks of all clients are their own.
func TestMarksOfEachClient(t *testing.T) {
	s := begun(t, 0, 1)
	want := cell{}
	for client := range api.MaxClients {
		seq := 10 - client
		does(t, s, write(client, seq, 0, strings.Repeat("w", client+1)))
		want.text, want.marks[client] = strings.Repeat("w", client+1), seq
		has(t, "one by one", s, 0, false, want)
	}
}

// P5.4
func TestFrozen(t *testing.T) {
	s := made(t)
	replies(t, s, api.Cmd{Op: api.OpFreeze}, true)
	for range 2 {
		for _, op := range clientsOps {
			replies(t, s, asked(op, 1, 1<<40, 2, 6), false)
		}
		replies(t, s, api.Cmd{}, false)
		replies(t, s, api.Cmd{Op: api.OpFreeze}, false)
		refuses(t, s, write(1, 9, 1, "x"), api.ErrRange)
		refuses(t, s, command(api.OpRead, 1, 9, 5, 7), api.ErrRange)
		refuses(t, s, write(1, 9, 2, "x\x00"), api.ErrArg)
		refuses(t, s, api.Cmd{Op: api.OpFreeze, Seq: 1}, api.ErrArg)
		refuses(t, s, write(9, 9, 1, "x"), api.ErrArg)
	}
	has(t, "frozen", s, 2, true, madeCells()...)
}

// P5.7
func TestNilStore(t *testing.T) {
	var s *blocks.Store
	if s.Span() != (api.Span{}) || s.Frozen() || s.Clone() != nil || len(s.Encode()) != 0 {
		t.Error(s.Span(), s.Frozen(), s.Clone(), s.Encode())
	}
	for _, block := range []int{0, -1, 256} {
		text, e := s.Block(block)
		says(t, "Block", e, api.ErrNone)
		seq, f := s.Mark(block, -1)
		says(t, "Mark", f, api.ErrNone)
		_, g := s.Mark(block, 0)
		says(t, "Mark", g, api.ErrNone)
		if text != "" || seq != 0 {
			t.Error(text, seq)
		}
	}
	for _, c := range append(someCmds(), write(4, 0, -1)) {
		r, e := s.Apply(c)
		says(t, short(c), e, api.ErrNone)
		if r.Ok || len(r.Data) != 0 {
			t.Error(r)
		}
	}
	for _, of := range []api.Span{{}, {To: 1}, {From: 5, To: 2}, {From: -1, To: 300}} {
		p, e := s.Part(of)
		refused(t, "Part", api.ErrNone, p, e)
	}
}

// Rule 4: what is handed in is neither changed nor kept, and what is read is new memory.
func TestMemoryOfApply(t *testing.T) {
	s := begun(t, 0, 4)
	data, untouched := roomy([]string{"a", "b"}, "c", "d")
	does(t, s, api.Cmd{Op: api.OpWrite, Client: 1, Seq: 1, From: 0, To: 2, Data: data})
	if !untouched() {
		t.Error("the texts were changed")
	}
	clear(data)
	want := []cell{{"a", [4]int{0, 1}}, {"b", [4]int{0, 1}}, {}, {}}
	has(t, "behind a change of what was handed in", s, 0, false, want...)
	r, _ := s.Apply(command(api.OpRead, 2, 1, 0, 3))
	if !slices.Equal(r.Data, []string{"a", "b", ""}) {
		t.Errorf("%q", r.Data)
	}
	clear(r.Data[:cap(r.Data)])
	has(t, "behind a change of what was read", s, 0, false, want...)
}
