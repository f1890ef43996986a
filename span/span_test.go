package span_test

import (
	"math"
	"slices"
	"testing"

	"lamella/api"
	"lamella/span"
)

// P2.1
func TestTouch(t *testing.T) {
	for _, c := range []struct {
		a, b api.Span
		want bool
	}{
		{one(1, 5), one(3, 9), true},
		{one(1, 5), one(4, 9), true},
		{one(1, 5), one(5, 9), false},
		{one(1, 5), one(7, 9), false},
		{one(1, 9), one(3, 4), true},
		{one(1, 9), one(1, 9), true},
		{one(-3, 0), one(-1, 1), true},
		{one(-3, -1), one(-1, 1), false},
		{one(1, 9), one(4, 4), false},
		{one(1, 9), one(6, 3), false},
		{one(6, 3), one(6, 3), false},
		{one(9, 1), one(3, 5), false},
		{one(0, 0), one(0, 0), false},
		{one(least, greatest), one(least, least+1), true},
		{one(least, greatest), one(greatest-1, greatest), true},
		{one(least, greatest), one(greatest, greatest), false},
		{one(least, greatest), one(greatest, least), false},
		{one(least, 0), one(0, greatest), false},
		{one(least, 1), one(0, greatest), true},
	} {
		if span.Touch(c.a, c.b) != c.want || span.Touch(c.b, c.a) != c.want {
			t.Errorf("Touch(%v, %v): want %v", c.a, c.b, c.want)
		}
	}
}

// P2.1
func TestNorm(t *testing.T) {
	for _, c := range []struct{ l, want []api.Span }{
		{nil, nil},
		{[]api.Span{}, nil},
		{row(5, 8, 1, 3, 3, 4, 7, 9), row(1, 4, 5, 9)}, // example 1
		{row(1, 3), row(1, 3)},
		{row(3, 3), nil},
		{row(3, 1, 0, 0, 9, -9), nil},
		{row(3, 3, 1, 5, 5, 2, 9, 9), row(1, 5)},
		{row(1, 3, 9, 4, 3, 5), row(1, 5)},
		{row(1, 3, 4, 5), row(1, 3, 4, 5)},
		{row(4, 5, 1, 3), row(1, 3, 4, 5)},
		{row(1, 3, 3, 5), row(1, 5)},
		{row(3, 5, 1, 3), row(1, 5)},
		{row(0, 9, 2, 4, 5, 6), row(0, 9)},
		{row(2, 4, 0, 9), row(0, 9)},
		{row(0, 9, 2, 4, 8, 12), row(0, 12)},
		{row(0, 5, 0, 3, 0, 9), row(0, 9)},
		{row(0, 3, 0, 3), row(0, 3)},
		{row(-5, -3, -3, 0, 0, 2), row(-5, 2)},
		{row(0, greatest, least, 0), row(least, greatest)},
		{row(1, greatest, least, 0), row(least, 0, 1, greatest)},
		{row(greatest-1, greatest, least, least+1), row(least, least+1, greatest-1, greatest)},
		{row(greatest, least, greatest, greatest, least, least), nil},
	} {
		sameRow(t, "Norm", span.Norm(c.l), c.want)
	}
}

// P2.1
func TestJoin(t *testing.T) {
	for _, c := range []struct{ a, b, want []api.Span }{
		{nil, nil, nil},
		{row(1, 3), nil, row(1, 3)},
		{row(1, 3), row(3, 4), row(1, 4)},
		{row(1, 3), row(4, 5), row(1, 3, 4, 5)},
		{row(1, 3, 4, 5), row(3, 4), row(1, 5)},
		{row(6, 9, 1, 3), row(2, 7, 5, 5), row(1, 9)},
		{row(3, 1), row(5, 5), nil},
		{row(3, 3, 7, 8), row(8, 6), row(7, 8)},
		{row(least, 0), row(0, greatest), row(least, greatest)},
	} {
		sameRow(t, "Join", span.Join(c.a, c.b), c.want)
		sameRow(t, "Join", span.Join(c.b, c.a), c.want)
	}
}

// P2.1
func TestMeet(t *testing.T) {
	for _, c := range []struct{ a, b, want []api.Span }{
		{nil, nil, nil},
		{row(1, 3), nil, nil},
		{row(1, 9), row(3, 4), row(3, 4)},
		{row(1, 5), row(3, 9), row(3, 5)},
		{row(1, 5), row(5, 9), nil},
		{row(1, 5), row(7, 9), nil},
		{row(1, 5, 6, 9), row(0, 20), row(1, 5, 6, 9)},
		{row(1, 5, 6, 9), row(4, 7), row(4, 5, 6, 7)},
		{row(1, 5), row(1, 3, 3, 5), row(1, 5)},
		{row(3, 5, 1, 3), row(2, 4), row(2, 4)},
		{row(6, 9, 1, 5), row(8, 12, 0, 2), row(1, 2, 8, 9)},
		{row(0, 9), row(4, 4, 7, 2), nil},
		{row(7, 2), row(7, 2), nil},
		{row(least, greatest), row(greatest-1, greatest, least, least+1), row(least, least+1, greatest-1, greatest)},
		{row(least, greatest), row(least, greatest), row(least, greatest)},
		{row(least, 1), row(0, greatest), row(0, 1)},
	} {
		sameRow(t, "Meet", span.Meet(c.a, c.b), c.want)
		sameRow(t, "Meet", span.Meet(c.b, c.a), c.want)
	}
}

// P2.1
func TestCut(t *testing.T) {
	for _, c := range []struct{ a, b, want []api.Span }{
		{nil, nil, nil},
		{nil, row(1, 3), nil},
		{row(1, 3), nil, row(1, 3)},
		{row(1, 9), row(3, 4), row(1, 3, 4, 9)}, // example 1
		{row(1, 9), row(1, 4), row(4, 9)},
		{row(1, 9), row(4, 9), row(1, 4)},
		{row(1, 9), row(0, 12), nil},
		{row(1, 9), row(1, 9), nil},
		{row(1, 9), row(1, 5, 5, 9), nil},
		{row(1, 9), row(9, 12, -2, 1), row(1, 9)},
		{row(1, 9), row(5, 5, 7, 3), row(1, 9)},
		{row(1, 9), row(6, 7, 3, 4), row(1, 3, 4, 6, 7, 9)},
		{row(5, 9, 1, 5), row(2, 3), row(1, 2, 3, 9)},
		{row(9, 1, 4, 4), row(2, 3), nil},
		{row(1, 3, 5, 8, 10, 12), row(2, 11), row(1, 2, 11, 12)},
		{row(least, greatest), nil, row(least, greatest)},
		{row(least, greatest), row(least, greatest), nil},
		{row(least, greatest), row(0, 1), row(least, 0, 1, greatest)},
		{row(least, greatest), row(least, least+1, greatest-1, greatest), row(least+1, greatest-1)},
		{row(least, least+1), row(least+1, greatest), row(least, least+1)},
		{row(greatest-1, greatest), row(least, greatest-1), row(greatest-1, greatest)},
	} {
		sameRow(t, "Cut", span.Cut(c.a, c.b), c.want)
	}
}

// P2.1
func TestHas(t *testing.T) {
	l := row(9, 12, 3, 3, 7, 2, 1, 4, 3, 5)
	for block, want := range map[int]bool{
		0: false, 1: true, 3: true, 4: true, 5: false, 6: false, 7: false, 8: false, 9: true, 11: true, 12: false,
		least: false, greatest: false,
	} {
		if span.Has(l, block) != want {
			t.Errorf("Has %d: want %v", block, want)
		}
	}
	all := row(least, greatest)
	if !span.Has(all, least) || !span.Has(all, 0) || !span.Has(all, greatest-1) || span.Has(all, greatest) {
		t.Error("Has at the ends of the whole numbers")
	}
	if span.Has(nil, 0) || span.Has([]api.Span{}, 0) || span.Has(row(0, 0), 0) || span.Has(row(1, -1), 0) {
		t.Error("Has of rows of no blocks")
	}
}

// P2.1
func TestCount(t *testing.T) {
	for _, c := range []struct {
		l    []api.Span
		want uint64
	}{
		{nil, 0},
		{row(3, 3, 9, 1), 0},
		{row(1, 9), 8},
		{row(1, 9, 1, 9), 8},
		{row(5, 8, 1, 3, 3, 4, 7, 9), 7},
		{row(-4, 3, 2, 0), 7},
		{row(0, greatest), math.MaxInt},
		{row(-1, greatest), math.MaxInt + 1},
		{row(least, greatest), math.MaxUint64},
		{row(least, 1, 0, greatest), math.MaxUint64},
		{row(least, 0, 1, greatest), math.MaxUint64 - 1},
		{row(least, least+1), 1},
		{row(greatest-1, greatest), 1},
		{row(greatest, least), 0},
	} {
		if n := span.Count(c.l); n != c.want {
			t.Errorf("Count(%v): %d, want %d", c.l, n, c.want)
		}
	}
}

// P2.1
func TestGaps(t *testing.T) {
	for _, c := range []struct {
		l    []api.Span
		in   api.Span
		want []api.Span
	}{
		{nil, one(1, 9), row(1, 9)},
		{nil, one(1, 1), nil},
		{nil, one(9, 1), nil},
		{row(3, 5), one(9, 1), nil},
		{row(3, 5), one(1, 9), row(1, 3, 5, 9)},
		{row(6, 7, 3, 5), one(1, 9), row(1, 3, 5, 6, 7, 9)},
		{row(1, 3, 8, 9), one(1, 9), row(3, 8)},
		{row(0, 12), one(1, 9), nil},
		{row(0, 5, 5, 9), one(1, 9), nil},
		{row(-3, 1, 9, 12), one(1, 9), row(1, 9)},
		{row(4, 4, 6, 2), one(1, 9), row(1, 9)},
		{row(0, 1), one(least, greatest), row(least, 0, 1, greatest)},
		{row(least, greatest), one(least, greatest), nil},
		{nil, one(least, greatest), row(least, greatest)},
		{row(least, greatest-1), one(greatest-2, greatest), row(greatest-1, greatest)},
	} {
		sameRow(t, "Gaps", span.Gaps(c.l, c.in), c.want)
	}
}

// P2.1
func TestBlocks(t *testing.T) {
	for _, c := range []struct {
		l    []api.Span
		want []int
	}{
		{nil, nil},
		{row(3, 3, 9, 1), nil},
		{row(5, 7, 1, 3), []int{1, 2, 5, 6}},
		{row(5, 8, 1, 3, 3, 4, 7, 9), []int{1, 2, 3, 5, 6, 7, 8}},
		{row(0, 2, 0, 2, 1, 1), []int{0, 1}},
		{row(-2, 1), []int{-2, -1, 0}},
		{row(greatest-2, greatest, least, least+2), []int{least, least + 1, greatest - 2, greatest - 1}},
	} {
		if got := gone(c.l); !slices.Equal(got, c.want) {
			t.Errorf("Blocks(%v): %v", c.l, got)
		}
	}
}

// P2.1: a loop may be left at any block, and gone through again.
func TestBlocksMayBeLeft(t *testing.T) {
	blocks := span.Blocks(row(5, 8, 1, 3, 7, 9))
	all := []int{1, 2, 5, 6, 7, 8}
	for n := range len(all) + 1 {
		var got []int
		for block := range blocks {
			if len(got) == n {
				break
			}
			got = append(got, block)
		}
		if !slices.Equal(got, all[:n]) {
			t.Errorf("left behind %d blocks: %v", n, got)
		}
	}
	if got := slices.Collect(blocks); !slices.Equal(got, all) {
		t.Errorf("gone through again: %v", got)
	}
	for block := range span.Blocks(row(least, greatest)) {
		if block == least+3 {
			break
		}
	}
}

// P2.1: two loops over the same blocks, one within the other.
func TestBlocksWithinBlocks(t *testing.T) {
	blocks := span.Blocks(row(0, 3))
	n := 0
	for a := range blocks {
		for b := range blocks {
			n += 10*a + b
		}
	}
	if n != 3*(0+10+20)+3*(0+1+2) {
		t.Error(n)
	}
}

// P2.1
func TestPieces(t *testing.T) {
	for _, c := range []struct {
		s    api.Span
		most int
		want []api.Span
	}{
		{one(0, 10), 4, row(0, 4, 4, 8, 8, 10)}, // example 1
		{one(0, 8), 4, row(0, 4, 4, 8)},
		{one(0, 9), 4, row(0, 4, 4, 8, 8, 9)},
		{one(0, 3), 4, row(0, 3)},
		{one(0, 4), 4, row(0, 4)},
		{one(-3, 2), 2, row(-3, -1, -1, 1, 1, 2)},
		{one(2, 5), 1, row(2, 3, 3, 4, 4, 5)},
		{one(0, 10), 0, nil},
		{one(0, 10), -1, nil},
		{one(0, 10), least, nil},
		{one(5, 5), 4, nil},
		{one(5, 5), 0, nil},
		{one(9, 1), 4, nil},
		{one(greatest, least), 4, nil},
		{one(0, 10), greatest, row(0, 10)},
		{one(greatest-5, greatest), 3, row(greatest-5, greatest-2, greatest-2, greatest)},
		{one(greatest-5, greatest), greatest, row(greatest-5, greatest)},
		{one(least, least+3), 2, row(least, least+2, least+2, least+3)},
		{one(0, greatest), greatest, row(0, greatest)},
		{one(-1, greatest), greatest, row(-1, greatest-1, greatest-1, greatest)},
		{one(least, greatest), greatest, row(least, -1, -1, greatest-1, greatest-1, greatest)},
		{one(least, greatest), 1, nil},
		{one(least, greatest), 1 << 51, nil},
	} {
		sameRow(t, "Pieces", span.Pieces(c.s, c.most), c.want)
	}
}

// P2.1: MaxList pieces are told, one more is not.
func TestPiecesAreAtMostMaxList(t *testing.T) {
	for _, from := range []int{least, -7, 0, 5, greatest - 3*api.MaxList} {
		for _, most := range []int{1, 2, 3} {
			for _, left := range []int{1, most} {
				s := one(from, from+most*(api.MaxList-1)+left)
				l := span.Pieces(s, most)
				if len(l) != api.MaxList || l[0].From != s.From || l[api.MaxList-1] != one(s.To-left, s.To) {
					t.Errorf("Pieces(%v, %d): %d pieces", s, most, len(l))
				}
				for i := 1; i < len(l); i++ {
					if l[i-1].To-l[i-1].From != most || l[i].From != l[i-1].To {
						t.Fatalf("Pieces(%v, %d): piece %d is %v", s, most, i-1, l[i-1])
					}
				}
			}
		}
	}
	for _, most := range []int{1, 2, 3} {
		if l := span.Pieces(one(-7, -7+most*api.MaxList+1), most); len(l) != 0 {
			t.Errorf("one more than MaxList: %d pieces", len(l))
		}
	}
	if l := span.Pieces(one(least, greatest), 1<<52); len(l) != api.MaxList || l[len(l)-1].To != greatest {
		t.Errorf("all blocks: %d pieces", len(l))
	}
}

// P2.1, and rules 1 and 3: any row is the set of its blocks.
func TestRowsAsSets(t *testing.T) {
	d := dice()
	for range 3000 {
		a, b, s := someRow(d), someRow(d), someSpan(d)
		holds(t, "Norm", span.Norm(a), func(x int) bool { return in(a, x) })
		holds(t, "Join", span.Join(a, b), func(x int) bool { return in(a, x) || in(b, x) })
		holds(t, "Meet", span.Meet(a, b), func(x int) bool { return in(a, x) && in(b, x) })
		holds(t, "Cut", span.Cut(a, b), func(x int) bool { return in(a, x) && !in(b, x) })
		holds(t, "Gaps", span.Gaps(a, s), func(x int) bool { return in([]api.Span{s}, x) && !in(a, x) })
		var all []int
		for x := low - 2; x < high+2; x++ {
			if in(a, x) {
				all = append(all, x)
			}
			if span.Has(a, x) != in(a, x) {
				t.Errorf("Has(%v, %d)", a, x)
			}
		}
		if got := gone(a); !slices.Equal(got, all) || span.Count(a) != uint64(len(all)) {
			t.Errorf("%v: Blocks %v, Count %d", a, got, span.Count(a))
		}
		if len(a) > 1 && span.Touch(a[0], a[1]) != (len(span.Meet(a[:1], a[1:2])) > 0) {
			t.Errorf("Touch(%v, %v)", a[0], a[1])
		}
		if t.Failed() {
			t.Fatalf("of %v and %v and %v", a, b, s)
		}
	}
}

// P2.1: pieces are all of the span's blocks, each of most but the last.
func TestPiecesOfAnySpan(t *testing.T) {
	d := dice()
	for range 3000 {
		s, most := someSpan(d), d.Intn(12)-2
		l := span.Pieces(s, most)
		if most < 1 || s.From >= s.To {
			if len(l) > 0 {
				t.Fatalf("Pieces(%v, %d): %v", s, most, l)
			}
			continue
		}
		at := s.From
		for i, p := range l {
			n := p.To - p.From
			if p.From != at || n > most || n < 1 || n < most && i < len(l)-1 {
				t.Fatalf("Pieces(%v, %d): %v", s, most, l)
			}
			at = p.To
		}
		if at != s.To {
			t.Fatalf("Pieces(%v, %d): %v", s, most, l)
		}
	}
}

// Rule 4: rows that are handed in stay as they are, with their spare room, and nothing of them is answered.
func TestRowsAreLeftAlone(t *testing.T) {
	calls := map[string]func(a, b []api.Span) []api.Span{
		"Norm":       func(a, b []api.Span) []api.Span { return span.Norm(a) },
		"Join":       span.Join,
		"Join's b":   func(a, b []api.Span) []api.Span { return span.Join(b, a) },
		"Join alone": func(a, b []api.Span) []api.Span { return span.Join(a, nil) },
		"Meet":       span.Meet,
		"Cut":        span.Cut,
		"Cut alone":  func(a, b []api.Span) []api.Span { return span.Cut(a, nil) },
		"Gaps":       func(a, b []api.Span) []api.Span { return span.Gaps(a, one(0, 30)) },
		"Has":        func(a, b []api.Span) []api.Span { span.Has(a, 3); return nil },
		"Count":      func(a, b []api.Span) []api.Span { span.Count(a); return nil },
		"Blocks":     func(a, b []api.Span) []api.Span { gone(a); return nil },
	}
	for _, given := range [][]api.Span{row(9, 12, 4, 4, 5, 8, 1, 3, 7, 9, 2, 1), row(1, 3, 5, 9)} {
		for name, call := range calls {
			whole := append(slices.Clone(given), row(77, 78, 79, 80)...)
			before := slices.Clone(whole)
			a := whole[:len(given)]
			b := row(2, 3, 6, 6, 0, 20)
			got := call(a, b)
			kept := slices.Clone(got)
			sameRow(t, name+" changes what it is given", whole, before)
			sameRow(t, name+" changes what it is given", b, row(2, 3, 6, 6, 0, 20))
			for i := range whole {
				whole[i] = one(-1, -1)
			}
			b[0], b[2] = one(-1, -1), one(-1, -1)
			sameRow(t, name+" answers what it was given", got, kept)
		}
	}
}

// Rule 4: a loop over blocks goes over those that were handed in, whatever becomes of the row.
func TestBlocksKeepNothingOfTheRow(t *testing.T) {
	l := row(1, 3, 7, 8)
	blocks := span.Blocks(l)
	l[0] = one(20, 30)
	if got := slices.Collect(blocks); !slices.Equal(got, []int{1, 2, 7}) {
		t.Error(got)
	}
}

// P2.3
func TestSetsGoTogether(t *testing.T) {
	d := dice()
	for range 2000 {
		a, b, c := someRow(d), someRow(d), someRow(d)
		join, meet, cut := span.Join, span.Meet, span.Cut
		sameRow(t, "Norm of what is plain", span.Norm(span.Norm(a)), span.Norm(a))
		sameRow(t, "joined with itself", join(a, a), span.Norm(a))
		sameRow(t, "met with itself", meet(a, a), span.Norm(a))
		sameRow(t, "cut by itself", cut(a, a), nil)
		sameRow(t, "either way joined", join(a, b), join(b, a))
		sameRow(t, "either way met", meet(a, b), meet(b, a))
		sameRow(t, "three joined", join(join(a, b), c), join(a, join(b, c)))
		sameRow(t, "three met", meet(meet(a, b), c), meet(a, meet(b, c)))
		sameRow(t, "joined and met", meet(a, join(b, c)), join(meet(a, b), meet(a, c)))
		sameRow(t, "met and joined", join(a, meet(b, c)), meet(join(a, b), join(a, c)))
		sameRow(t, "cut by both", cut(a, join(b, c)), cut(cut(a, b), c))
		sameRow(t, "cut by what is met", cut(a, meet(b, c)), join(cut(a, b), cut(a, c)))
		sameRow(t, "cut and met", join(cut(a, b), meet(a, b)), span.Norm(a))
		sameRow(t, "cut twice", cut(a, cut(a, b)), meet(a, b))
		if span.Count(a)+span.Count(b) != span.Count(join(a, b))+span.Count(meet(a, b)) {
			t.Error("counts of what is joined and met")
		}
		if span.Count(cut(a, b)) != span.Count(a)-span.Count(meet(a, b)) {
			t.Error("counts of what is cut")
		}
		if t.Failed() {
			t.Fatalf("of %v and %v and %v", a, b, c)
		}
	}
}
