package insts_test

import (
	"math"
	"slices"
	"strings"
	"testing"

	"lamella/api"
	"lamella/insts"
)

// may checks May of rich with one thing changed.
func may(t *testing.T, what string, want bool, change func(*api.Inst)) {
	t.Helper()
	if x := changed(rich(), change); insts.May(x) != want {
		t.Errorf("%s: May of %v is %v", what, x, !want)
	}
}

// mays checks May of rich with a number set to such as may be, and to such as may not.
func mays(t *testing.T, what string, good, bad []int, set func(x *api.Inst, n int)) {
	t.Helper()
	for _, n := range good {
		may(t, what, true, func(x *api.Inst) { set(x, n) })
	}
	for _, n := range bad {
		may(t, what, false, func(x *api.Inst) { set(x, n) })
	}
}

// The numbers that nodes and bounds of 2^30 let in, and some that they don't.
var (
	nodes     = []int{0, 1, 5, 6}
	noNodes   = []int{-1, 7, 8, math.MinInt, math.MaxInt, 1 << 32}
	indices   = []int{1, 2, 1<<30 - 1, 1 << 30}
	noIndices = []int{0, -1, 1<<30 + 1, 1 << 31, 1<<32 + 1, math.MinInt, math.MaxInt}
)

// P7.1: each field, with the others as they may be.
func TestMayOfFields(t *testing.T) {
	may(t, "nothing changed", true, func(*api.Inst) {})
	mays(t, "Lead", nodes, noNodes, func(x *api.Inst, n int) { x.Ref.Lead = n })
	mays(t, "Index", indices, noIndices, func(x *api.Inst, n int) { x.Ref.Index = n })
	mays(t, "Ballot.N", []int{5, 1 << 30}, []int{-1, 1<<30 + 1, 1 << 40, math.MaxInt}, func(x *api.Inst, n int) { x.Ballot.N = n })
	mays(t, "Ballot.Node", nodes, noNodes, func(x *api.Inst, n int) { x.Ballot.Node = n })
	mays(t, "Vote.N", []int{0, 1, 4}, []int{-1, math.MinInt, 6, 1 << 30, math.MaxInt}, func(x *api.Inst, n int) { x.Vote.N = n })
	mays(t, "Vote.Node", nodes, noNodes, func(x *api.Inst, n int) { x.Vote.Node = n })
	mays(t, "Status", []int{api.Seen, api.Taken, api.Done}, []int{-1, 4, math.MinInt, math.MaxInt}, func(x *api.Inst, n int) { x.Status = n })
	mays(t, "Seq", []int{0, 1, 1<<40 - 1, 1 << 40}, []int{-1, 1<<40 + 1, math.MinInt, math.MaxInt}, func(x *api.Inst, n int) { x.Seq = n })
	may(t, "Same", true, func(x *api.Inst) { x.Same = false })
}

// P7.1: Vote not above Ballot.
func TestMayOfVotes(t *testing.T) {
	for _, c := range []struct {
		vote, ballot api.Ballot
		want         bool
	}{
		{ballot(0, 0), ballot(0, 0), true},
		{ballot(3, 3), ballot(3, 3), true},
		{ballot(1<<30, 6), ballot(1<<30, 6), true},
		{ballot(3, 2), ballot(3, 3), true},
		{ballot(2, 6), ballot(3, 0), true},
		{ballot(3, 4), ballot(3, 3), false},
		{ballot(4, 0), ballot(3, 6), false},
		{ballot(0, 1), ballot(0, 0), false},
		{ballot(1<<30, 1), ballot(1<<30, 0), false},
		{ballot(1<<30+1, 0), ballot(1<<30+1, 1), false},
		{ballot(-1, 0), ballot(-1, 1), false},
		{ballot(-1, 0), ballot(0, 0), false},
		{ballot(2, 7), ballot(3, 0), false},
		{ballot(2, -1), ballot(3, 0), false},
	} {
		may(t, "votes", c.want, func(x *api.Inst) { x.Vote, x.Ballot = c.vote, c.ballot })
	}
}

// P7.1: Cmd one that may be.
func TestMayOfCommands(t *testing.T) {
	long := strings.Repeat("f", api.BlockSize)
	for _, c := range []api.Cmd{
		{}, {Op: api.OpFreeze}, {Data: []string{}}, read(3, 240, 256), write(0, 1, 0, "", long), command(api.OpTrim, 0, api.MaxSeq, 0, 16), command(api.OpFlush, 1, 1, 5, 6),
	} {
		may(t, "a command", true, func(x *api.Inst) { x.Cmd = c })
	}
	for _, c := range []api.Cmd{
		{Client: 1}, {Op: api.OpFreeze, Seq: 1}, {Op: 6}, {Op: -1}, {Op: 258}, read(4, 0, 1), read(0, 0, 17), read(0, 1, 1), read(0, 250, 257),
		write(0, 0, 0, "a"), write(0, api.MaxSeq+1, 0, "a"), write(0, 1, 0, "a\x00"), write(0, 1, 0, long+"f"), write(0, 1, 0), {Op: api.OpRead, Seq: 1, To: 1, Data: []string{""}},
	} {
		may(t, "a command", false, func(x *api.Inst) { x.Cmd = c })
	}
}

// P7.1: Deps at most MaxList, rising, each of a Lead and an Index that may be.
func TestMayOfDeps(t *testing.T) {
	for _, l := range [][]api.Ref{
		nil, {}, {ref(0, 1)}, {ref(6, 1<<30)}, {ref(2, 300)}, {ref(0, 1), ref(0, 2)}, {ref(0, 1<<30), ref(1, 1)}, {ref(0, 5), ref(1, 1), ref(1, 2), ref(6, 1)}, rows(4095), rows(4096),
	} {
		may(t, "Deps", true, func(x *api.Inst) { x.Deps = l })
	}
	for _, l := range [][]api.Ref{
		{ref(0, 1), ref(0, 1)}, {ref(0, 2), ref(0, 1)}, {ref(1, 1), ref(0, 2)}, {ref(0, 1), ref(1, 1), ref(1, 1)}, {ref(0, 1), ref(2, 1), ref(1, 9)}, rows(4097), rows(10000),
	} {
		may(t, "Deps", false, func(x *api.Inst) { x.Deps = l })
	}
	for at := range 3 {
		set := func(x *api.Inst, r api.Ref) {
			x.Deps = refs(ref(0, 7), ref(3, 7), ref(6, 7))
			x.Deps[at] = r
		}
		mays(t, "a Lead of Deps", []int{3 * at}, noNodes, func(x *api.Inst, n int) { set(x, ref(n, 7)) })
		mays(t, "an Index of Deps", indices, noIndices, func(x *api.Inst, n int) { set(x, ref(3*at, n)) })
	}
}

// P7.1: with Status None all but the Ref and the Ballot is zero.
func TestMayOfNone(t *testing.T) {
	bare := api.Inst{Ref: ref(2, 300), Ballot: ballot(5, 3)}
	for _, x := range []api.Inst{
		bare,
		{Ref: ref(0, 1)},
		{Ref: ref(6, 1<<30), Ballot: ballot(1<<30, 6)},
		changed(bare, func(x *api.Inst) { x.Deps = refs() }),
		changed(bare, func(x *api.Inst) { x.Cmd.Data = []string{} }),
	} {
		if !insts.May(x) {
			t.Errorf("May of %v is false", x)
		}
	}
	for i, change := range []func(*api.Inst){
		func(x *api.Inst) { x.Vote = ballot(1, 0) },
		func(x *api.Inst) { x.Vote = ballot(0, 1) },
		func(x *api.Inst) { x.Same = true },
		func(x *api.Inst) { x.Cmd = api.Cmd{Op: api.OpFreeze} },
		func(x *api.Inst) { x.Cmd = read(0, 0, 1) },
		func(x *api.Inst) { x.Cmd = write(0, 1, 0, "a") },
		func(x *api.Inst) { x.Seq = 1 },
		func(x *api.Inst) { x.Deps = refs(ref(0, 1)) },
	} {
		x := changed(bare, change)
		if insts.May(x) {
			t.Errorf("change %d: May of %v is true", i, x)
		}
		if x.Status = api.Seen; !insts.May(x) {
			t.Errorf("change %d: May of %v is false", i, x)
		}
	}
	if insts.May(api.Inst{}) {
		t.Error("a zero one has no Index, and yet it may be")
	}
}

// P7.1: by N, then by Node, whatever the numbers.
func TestLessBallot(t *testing.T) {
	l := []api.Ballot{
		ballot(math.MinInt, math.MaxInt), ballot(-1, 6), ballot(0, math.MinInt), ballot(0, -1), ballot(0, 0), ballot(0, 1), ballot(0, 6), ballot(0, math.MaxInt),
		ballot(1, 0), ballot(1, 3), ballot(2, -5), ballot(1<<30, 0), ballot(1<<30, 6), ballot(math.MaxInt, math.MinInt), ballot(math.MaxInt, 0),
	}
	for i, a := range l {
		for j, b := range l {
			if insts.LessBallot(a, b) != (i < j) {
				t.Errorf("LessBallot(%v, %v) is %v", a, b, i >= j)
			}
		}
	}
}

// others are rich with one thing changed each.
func others() []api.Inst {
	var l []api.Inst
	for _, change := range []func(*api.Inst){
		func(x *api.Inst) { x.Ref.Lead++ },
		func(x *api.Inst) { x.Ref.Index++ },
		func(x *api.Inst) { x.Ballot.N++ },
		func(x *api.Inst) { x.Ballot.Node++ },
		func(x *api.Inst) { x.Vote.N-- },
		func(x *api.Inst) { x.Vote.Node-- },
		func(x *api.Inst) { x.Status = api.Done },
		func(x *api.Inst) { x.Same = false },
		func(x *api.Inst) { x.Cmd.Op = api.OpTrim },
		func(x *api.Inst) { x.Cmd.Client++ },
		func(x *api.Inst) { x.Cmd.Seq++ },
		func(x *api.Inst) { x.Cmd.From++ },
		func(x *api.Inst) { x.Cmd.To++ },
		func(x *api.Inst) { x.Cmd.Data[1] = "" },
		func(x *api.Inst) { x.Cmd.Data = x.Cmd.Data[:1] },
		func(x *api.Inst) { x.Cmd.Data = append(x.Cmd.Data, "") },
		func(x *api.Inst) { x.Cmd.Data = nil },
		func(x *api.Inst) { slices.Reverse(x.Cmd.Data) },
		func(x *api.Inst) { x.Seq++ },
		func(x *api.Inst) { x.Deps[0].Lead-- },
		func(x *api.Inst) { x.Deps[3].Index++ },
		func(x *api.Inst) { x.Deps = x.Deps[:3] },
		func(x *api.Inst) { x.Deps = append(x.Deps, ref(6, 2)) },
		func(x *api.Inst) { x.Deps = nil },
		func(x *api.Inst) { slices.Reverse(x.Deps) },
		func(x *api.Inst) { *x = api.Inst{} },
	} {
		l = append(l, changed(rich(), change))
	}
	return l
}

// P7.1: Same tells each field apart, of instances that may not be, too.
func TestSame(t *testing.T) {
	l := append(others(), rich())
	for i, a := range l {
		for j, b := range l {
			if insts.Same(a, changed(b, func(*api.Inst) {})) != (i == j) {
				t.Errorf("numbers %d, %d: Same is %v", i, j, i != j)
			}
		}
	}
}

// Rule 3: no list and an empty one are the same.
func TestSameOfEmptyLists(t *testing.T) {
	bare := api.Inst{Ref: ref(1, 1), Status: api.Seen}
	empty := changed(bare, func(x *api.Inst) { x.Deps, x.Cmd.Data = refs(), []string{} })
	if !insts.Same(bare, empty) || !insts.Same(empty, bare) || !insts.Same(api.Inst{}, api.Inst{}) {
		t.Error("they aren't the same")
	}
}

// Rule 4: what is handed in isn't changed.
func TestMemoryOfQuestions(t *testing.T) {
	x := rich()
	data, sameData := roomy(x.Cmd.Data, "c", "d")
	deps, sameDeps := roomy(x.Deps, ref(1, 1), ref(0, 0))
	x.Cmd.Data, x.Deps = data, deps
	insts.May(x)
	insts.Same(x, rich())
	lay(x)
	if !sameData() || !sameDeps() {
		t.Error("the lists were changed")
	}
}
