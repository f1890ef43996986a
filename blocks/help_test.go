package blocks_test

import (
	"fmt"
	"math/rand"
	"slices"
	"strings"
	"testing"

	"lamella/api"
	"lamella/blocks"
)

// full is a block that has no nought at all, and hollow one that has noughts all over, but at its end.
var (
	full   = strings.Repeat("f", 4096)
	hollow = strings.Repeat("\x00", 4095) + "h"
)

func write(client, seq, from int, texts ...string) api.Cmd {
	return api.Cmd{Op: api.OpWrite, Client: client, Seq: seq, From: from, To: from + len(texts), Data: texts}
}

// command is one that has no texts.
func command(op, client, seq, from, to int) api.Cmd {
	return api.Cmd{Op: op, Client: client, Seq: seq, From: from, To: to}
}

// begun is a new store of the blocks from from to before to.
func begun(t *testing.T, from, to int) *blocks.Store {
	t.Helper()
	s, e := blocks.New(api.Span{From: from, To: to})
	if s == nil || e != api.OK {
		t.Fatalf("New(%d, %d): %v, error %d", from, to, s, e)
	}
	return s
}

// made is a store of the blocks 2 to 5: "a" by client 1, nothing, a full block that clients 0 and 3 have come to, one that was trimmed.
func made(t *testing.T) *blocks.Store {
	t.Helper()
	s := begun(t, 2, 6)
	does(t, s,
		write(1, 7, 2, "a"),
		write(3, api.MaxSeq, 4, full),
		write(0, 300, 4, full, "gone"),
		command(api.OpTrim, 2, 1, 5, 6))
	return s
}

// madeCells is what made's store has.
func madeCells() []cell {
	return []cell{
		{"a", [4]int{0, 7, 0, 0}},
		{"", [4]int{}},
		{full, [4]int{300, 0, 0, 1 << 40}},
		{"", [4]int{300, 0, 1, 0}},
	}
}

// cell is a block as the tests tell it.
type cell struct {
	text  string
	marks [4]int
}

// does applies commands that must be done.
func does(t *testing.T, s *blocks.Store, l ...api.Cmd) {
	t.Helper()
	for i, c := range l {
		if r, e := s.Apply(c); !r.Ok || e != api.OK {
			t.Fatalf("command %d, %s: Ok %v, error %d", i, short(c), r.Ok, e)
		}
	}
}

// short tells a command without what its texts have.
func short(c api.Cmd) string {
	return fmt.Sprint([]int{c.Op, c.Client, c.Seq, c.From, c.To}, " with ", len(c.Data))
}

func says(t *testing.T, what string, got, want api.Errno) {
	t.Helper()
	if got != want {
		t.Errorf("%s: got error %d, want %d", what, got, want)
	}
}

// refused checks an answer that is an error, of a call that makes stores.
func refused(t *testing.T, what string, want api.Errno, s *blocks.Store, e api.Errno) {
	t.Helper()
	if s != nil || e != want {
		t.Errorf("%s: got a store %v, error %d, want error %d", what, s != nil, e, want)
	}
}

// replies checks what Apply answers.
func replies(t *testing.T, s *blocks.Store, c api.Cmd, ok bool, texts ...string) {
	t.Helper()
	r, e := s.Apply(c)
	if e != api.OK || r.Ok != ok || !slices.Equal(r.Data, texts) {
		t.Errorf("%s: Ok %v, %d texts, %.40q, error %d, want %v, %.40q", short(c), r.Ok, len(r.Data), r.Data, e, ok, texts)
	}
}

// refuses checks that Apply does nothing.
func refuses(t *testing.T, s *blocks.Store, c api.Cmd, want api.Errno) {
	t.Helper()
	was := s.Encode()
	r, e := s.Apply(c)
	if e != want || r.Ok || len(r.Data) != 0 {
		t.Errorf("%s: Ok %v, %d texts, error %d, want error %d", short(c), r.Ok, len(r.Data), e, want)
	}
	if !slices.Equal(was, s.Encode()) {
		t.Errorf("%s: refused, and yet the store has changed", short(c))
	}
}

// has checks all that a store tells.
func has(t *testing.T, what string, s *blocks.Store, from int, frozen bool, cells ...cell) {
	t.Helper()
	to := from + len(cells)
	if got := s.Span(); got != (api.Span{From: from, To: to}) || s.Frozen() != frozen {
		t.Fatalf("%s: the span is %v, frozen %v, want %d to %d, %v", what, got, s.Frozen(), from, to, frozen)
	}
	for i, c := range cells {
		if text, e := s.Block(from + i); text != c.text || e != api.OK {
			t.Errorf("%s: block %d is %.20q, error %d, want %.20q", what, from+i, text, e, c.text)
		}
		for client, seq := range c.marks {
			if got, e := s.Mark(from+i, client); got != seq || e != api.OK {
				t.Errorf("%s: the mark of block %d, client %d is %d, error %d, want %d", what, from+i, client, got, e, seq)
			}
		}
	}
	for _, block := range []int{from - 1, to} {
		if text, e := s.Block(block); text != "" || e != api.ErrRange {
			t.Errorf("%s: block %d is %.20q, error %d", what, block, text, e)
		}
	}
}

// laidNum is a Num by the words of P1.2.
func laidNum(n uint64) []byte {
	l := []byte{byte(n % 128)}
	for n /= 128; n > 0; n /= 128 {
		l = append(l, byte(n%128)+128)
	}
	slices.Reverse(l)
	return l
}

// laidInt is an Int by the words of P1.2.
func laidInt(n int) []byte {
	if n < 0 {
		return append([]byte{1}, laidNum(uint64(-1-n))...)
	}
	return append([]byte{0}, laidNum(uint64(n))...)
}

func laidText(s string) []byte { return append(laidNum(uint64(len(s))), s...) }

// laid is a store by the words of P5.6.
func laid(from, to uint64, frozen byte, cells ...cell) []byte {
	b := slices.Concat(laidNum(from), laidNum(to), []byte{frozen})
	for _, c := range cells {
		b = append(b, laidText(c.text)...)
		for _, seq := range c.marks {
			b = append(b, laidNum(uint64(seq))...)
		}
	}
	return b
}

// roomy is l with others behind it that nobody may touch, and whether they, and l, are still as they were.
func roomy[T comparable](l []T, others ...T) (arg []T, untouched func() bool) {
	all := slices.Concat(l, others)
	was := slices.Clone(all)
	return all[:len(l)], func() bool { return slices.Equal(all, was) }
}

// dice are the same in each run.
func dice() *rand.Rand { return rand.New(rand.NewSource(5)) }
