package warden_test

import (
	"math"
	"testing"

	"lamella/api"
	"lamella/atlas"
	"lamella/warden"
)

// example 1
func TestExample(t *testing.T) {
	a := loaded(t, quiet(part(1, 0, 8, 0)))
	decides(t, a, api.Rules{Hot: 10, Cap: 9}, []api.Load{{Shard: 1, Commands: 12, Mid: 3}}, nil, split(1, 3))
}

// fields are the numbers of rules, one by one.
func fields(r *api.Rules) []*int { return []*int{&r.Hot, &r.Cold, &r.Long, &r.Mute, &r.Cap} }

// P12.1
func TestMay(t *testing.T) {
	for _, r := range []api.Rules{{}, {Hot: 1, Cold: 2, Long: 3, Mute: 4, Cap: 5}, {Hot: top, Cold: top, Long: top, Mute: top, Cap: top}} {
		if !warden.May(r) {
			t.Errorf("%+v may not be", r)
		}
	}
	for i := range fields(&api.Rules{}) {
		for n, want := range map[int]bool{0: true, 1: true, top: true, -1: false, top + 1: false, math.MinInt: false, math.MaxInt: false} {
			r := api.Rules{Hot: 9, Cold: 9, Long: 9, Mute: 9, Cap: 9}
			*fields(&r)[i] = n
			if warden.May(r) != want {
				t.Errorf("May of %+v isn't %v", r, want)
			}
		}
	}
}

// P12.2: where nothing may be decided at all.
func TestNothingIsDecided(t *testing.T) {
	all := api.Rules{Hot: 1, Cold: 1, Long: 1, Mute: 1, Cap: 2}
	loads, live := []api.Load{{Shard: 1, Commands: 5, Insts: 5, Mid: 3}}, nodes(1, 2)
	s := quiet(part(1, 0, 8, 0))
	a := loaded(t, s)
	decides(t, a, all, loads, live, replace(1, 0, 1))
	rests(t, nil, all, loads, live)
	for i := range fields(&all) {
		for _, n := range []int{-1, top + 1, math.MinInt, math.MaxInt} {
			r := all
			*fields(&r)[i] = n
			rests(t, a, r, loads, live)
		}
	}
	s.open = nodes(1)
	rests(t, loaded(t, s), all, loads, live)
}

// P12.2, P12.5: till the epoch is Cap.
func TestCap(t *testing.T) {
	loads, live := []api.Load{{Shard: 1, Commands: 5, Insts: 5, Mid: 3}}, nodes(1, 2)
	for _, r := range []api.Rules{{Hot: 1}, {Long: 1}, {Mute: 1}, {Hot: 1, Cold: 1, Long: 1, Mute: 1}} {
		s := quiet(part(1, 0, 8, 0))
		for _, epoch := range []int{1, 2, 7, top - 1} {
			s.epoch = epoch
			a := loaded(t, s)
			for _, limit := range []int{0, 1, epoch - 1, epoch} {
				r.Cap = limit
				if limit <= epoch {
					rests(t, a, r, loads, live)
				}
			}
			r.Cap = epoch + 1
			if _, ok := warden.Decide(a, r, loads, live); !ok {
				t.Errorf("epoch %d: nothing by %+v", epoch, r)
			}
		}
		r.Cap = top
		for _, epoch := range []int{top, top + 1, top + 2} {
			s.epoch = epoch
			rests(t, loaded(t, s), r, loads, live)
		}
	}
}

// P12.5: without rules nothing is decided, whatever there is to do.
func TestWithoutRules(t *testing.T) {
	a := loaded(t, quiet(part(1, 0, 4, 0, 1, 2), part(2, 4, 8, 0, 1, 2)))
	for _, n := range []int{0, 1, math.MinInt, math.MaxInt} {
		loads := []api.Load{{Shard: 1, Commands: n, Insts: n, Mid: n}, {Shard: 2, Commands: n, Insts: n, Mid: n}}
		for _, limit := range []int{0, 1, 9, top} {
			rests(t, a, api.Rules{Cap: limit}, loads, nodes(3, 4))
			rests(t, a, api.Rules{Cap: limit}, nil, nil)
		}
	}
}

// P12.2: what has no rule isn't done, though it would be the first one.
func TestEachRuleAlone(t *testing.T) {
	a := loaded(t, quiet(part(3, 0, 4, 0, 1, 2), part(5, 4, 8, 0, 1, 2)))
	loads, live := []api.Load{{Shard: 3, Commands: 5, Insts: 5, Mid: 2}, commands(5, 4)}, nodes(1, 2, 4)
	decides(t, a, api.Rules{Mute: 1, Cap: 9}, loads, live, replace(3, 0, 4))
	decides(t, a, api.Rules{Long: 5, Cap: 9}, loads, live, renew(3))
	decides(t, a, api.Rules{Hot: 5, Cap: 9}, loads, live, split(3, 2))
	decides(t, a, api.Rules{Cold: 9, Cap: 9}, loads, live, merge(3, 5))
}

// P12.2: the rules are asked in their order.
func TestOrderOfRules(t *testing.T) {
	a := loaded(t, quiet(part(3, 0, 4, 0, 1, 2), part(5, 4, 8, 0, 1, 2)))
	loads := []api.Load{commands(3, 4), {Shard: 5, Commands: 5, Insts: 5, Mid: 6}}
	r := api.Rules{Hot: 5, Cold: 9, Long: 5, Mute: 1, Cap: 9}
	decides(t, a, r, loads, nodes(0, 1, 6), replace(3, 2, 6))
	decides(t, a, r, loads, nodes(0, 1, 2, 6), renew(5)) // nobody is silent
	decides(t, a, r, loads, nodes(0, 1), renew(5))       // nobody is spare
	loads[1].Insts = 4
	decides(t, a, r, loads, nodes(0, 1), split(5, 6))
	loads[1].Commands = 4
	decides(t, a, r, loads, nodes(0, 1), merge(3, 5))
	loads[1].Commands = 6
	decides(t, a, r, loads, nodes(0, 1), split(5, 6))
	r.Hot = 7
	rests(t, a, r, loads, nodes(0, 1)) // ten commands together
}

// P12.2, rule 1: who goes, and who comes.
func TestReplace(t *testing.T) {
	r := api.Rules{Mute: 3, Cap: 9}
	a := loaded(t, quiet(part(1, 0, 8, 1, 3, 5)))
	for _, c := range []struct {
		live    []int
		out, in int
	}{
		{nodes(1, 3, 6), 5, 6},
		{nodes(3, 5, 6), 1, 6},
		{nodes(1, 5, 6), 3, 6},
		{nodes(5, 0), 1, 0},
		{nodes(1, 0, 2, 4, 6), 3, 0},
		{nodes(6, 4, 2, 1), 3, 2},
		{nodes(6, 5, 4), 1, 4},
		{nodes(4, 4, 3, 3, 1, 1), 5, 4},
		{nodes(-1, 7, 2, 99), 1, 2},
		{nodes(math.MinInt, math.MaxInt, 6), 1, 6},
	} {
		decides(t, a, r, nil, c.live, replace(1, c.out, c.in))
	}
	for _, live := range [][]int{
		nil, {}, nodes(1), nodes(1, 3), nodes(1, 3, 5), nodes(5, 3, 1, 1), nodes(0, 1, 2, 3, 4, 5, 6),
		nodes(1, 3, -1), nodes(1, 3, 7), nodes(3, api.MaxNodes, 100, -2, math.MinInt, math.MaxInt),
	} {
		rests(t, a, r, nil, live)
	}
	for _, mute := range []int{1, top} { // how long somebody is silent is known to the one who tells live
		decides(t, a, api.Rules{Mute: mute, Cap: 9}, nil, nodes(1, 3, 6), replace(1, 5, 6))
	}
}

// P12.2, rule 1: the first shard by its blocks; one for which there is nobody is passed by.
func TestReplaceInTheFirstShard(t *testing.T) {
	r := api.Rules{Mute: 3, Cap: 9}
	a := loaded(t, quiet(part(7, 0, 2, 0, 1, 2), part(2, 2, 3, 0, 1, 3), part(4, 3, 8, 0, 1, 3), part(3, 8, 9, 1, 2, 3)))
	for _, c := range []struct {
		live []int
		want api.Change
	}{
		{nodes(0, 1, 3), replace(7, 2, 3)},
		{nodes(0, 1, 2), replace(2, 3, 2)},
		{nodes(0, 1, 2, 4), replace(2, 3, 2)},
		{nodes(0, 1, 3, 4), replace(7, 2, 3)},
		{nodes(4), replace(7, 0, 4)},
		{nodes(1, 2, 3, 4), replace(7, 0, 3)},
		{nodes(0, 1), replace(3, 2, 0)}, // of the others the live ones are members all
		{nodes(0), replace(3, 1, 0)},
	} {
		decides(t, a, r, nil, c.live, c.want)
	}
	rests(t, a, r, nil, nodes(1))
	rests(t, a, r, nil, nodes(0, 1, 2, 3))
	rests(t, a, r, nil, nodes(0, 1, 2, 3, 4, 5, 6))
	all := loaded(t, quiet(part(1, 0, 2, 0, 1, 2, 3, 4, 5, 6)))
	rests(t, all, r, nil, nodes(0, 1, 2))
}

// P12.2, rule 2.
func TestRenew(t *testing.T) {
	a := loaded(t, quiet(part(7, 0, 2, 0), part(2, 2, 3, 1), part(4, 3, 8, 0)))
	for _, c := range []struct {
		long  int
		loads []api.Load
		want  int // 0: none
	}{
		{5, []api.Load{insts(2, 5)}, 2},
		{5, []api.Load{insts(2, 4)}, 0},
		{5, []api.Load{insts(4, 9), insts(2, 5)}, 2},
		{5, []api.Load{insts(2, 5), insts(4, 9), insts(7, 6)}, 7},
		{5, []api.Load{insts(2, 9), insts(2, 4)}, 0},
		{5, []api.Load{insts(2, 4), insts(2, 9)}, 2},
		{5, []api.Load{insts(2, 9), insts(4, 6), {Shard: 2, Commands: 9}}, 4},
		{1, []api.Load{insts(1, 9), insts(0, 9), insts(-7, 9), insts(8, 9)}, 0},
		{1, nil, 0},
		{1, []api.Load{insts(7, 0), insts(2, math.MinInt), insts(4, 1)}, 4},
		{top, []api.Load{insts(7, top-1), insts(2, top), insts(4, math.MaxInt)}, 2},
		{top, []api.Load{insts(4, math.MaxInt)}, 4},
	} {
		r := api.Rules{Long: c.long, Cap: 9}
		if c.want == 0 {
			rests(t, a, r, c.loads, nil)
		} else {
			decides(t, a, r, c.loads, nil, renew(c.want))
		}
	}
}

// P12.2, rule 3: which shard.
func TestSplitOfTheHottest(t *testing.T) {
	a := loaded(t, quiet(part(7, 0, 2, 0), part(2, 2, 3, 1), part(4, 3, 8, 0), part(5, 8, 12, 0)))
	for _, c := range []struct {
		hot   int
		loads []api.Load
		want  int // 0: none
	}{
		{10, []api.Load{commands(4, 10)}, 4},
		{10, []api.Load{commands(4, 9)}, 0},
		{10, []api.Load{commands(7, 10), commands(4, 11)}, 4},
		{10, []api.Load{commands(7, 11), commands(4, 10)}, 7},
		{10, []api.Load{commands(5, 12), commands(4, 12), commands(7, 11)}, 4},
		{10, []api.Load{commands(5, 10), commands(4, 10), commands(7, 10)}, 7},
		{10, []api.Load{commands(2, 99)}, 0}, // it has one block
		{10, []api.Load{commands(2, 99), commands(5, 10)}, 5},
		{10, []api.Load{commands(4, 99), commands(4, 9)}, 0},
		{10, []api.Load{commands(4, 99), commands(5, 20), commands(4, 10)}, 5},
		{10, []api.Load{commands(4, 20), commands(5, 19), insts(4, 3)}, 5},
		{1, nil, 0},
		{1, []api.Load{commands(1, 9), commands(0, 9), commands(-7, 9), commands(13, 9)}, 0},
		{1, []api.Load{commands(7, math.MinInt), commands(4, -1), commands(5, 0)}, 0},
		{top, []api.Load{commands(4, top-1), commands(5, top)}, 5},
		{1, []api.Load{commands(4, math.MaxInt-1), commands(5, math.MaxInt)}, 5},
	} {
		r := api.Rules{Hot: c.hot, Cap: 9}
		if c.want == 0 {
			rests(t, a, r, c.loads, nil)
			continue
		}
		s, _ := a.Get(c.want)
		decides(t, a, r, c.loads, nil, split(c.want, s.Span.From+1))
	}
}

// P12.2, rule 3: where.
func TestSplitAtMid(t *testing.T) {
	a := loaded(t, quiet(part(7, 0, 2, 0), part(4, 2, 8, 0), part(5, 8, 10, 0)))
	r := api.Rules{Hot: 10, Cap: 9}
	for _, c := range []struct{ shard, mid, at int }{
		{4, 4, 4}, {4, 3, 3}, {4, 7, 7}, {4, 2, 3}, {4, 1, 3}, {4, 0, 3}, {4, -1, 3}, {4, 8, 7}, {4, 9, 7}, {4, 255, 7},
		{4, math.MinInt, 3}, {4, math.MaxInt, 7},
		{7, 0, 1}, {7, 1, 1}, {7, 2, 1}, {5, 8, 9}, {5, 9, 9}, {5, 10, 9},
	} {
		decides(t, a, r, []api.Load{{Shard: c.shard, Commands: 10, Mid: c.mid}}, nil, split(c.shard, c.at))
	}
}

// P12.2, rule 4: how cold.
func TestMergeOfCold(t *testing.T) {
	a := loaded(t, quiet(part(7, 0, 2, 0, 1, 2), part(4, 2, 3, 0, 1, 2)))
	for _, c := range []struct {
		cold, a, b int
		ok         bool
	}{
		{10, 0, 0, true}, {1, 0, 0, true}, {1, 1, 0, true}, {1, 0, 1, true}, {1, 1, 1, false},
		{10, 5, 5, true}, {10, 10, 0, true}, {10, 0, 10, true}, {10, 4, 7, false}, {10, 7, 4, false}, {10, 11, 0, false}, {10, 0, 11, false},
		{top, top / 2, top / 2, true}, {top, top, 1, false},
		{10, math.MaxInt, math.MaxInt, false}, {10, math.MaxInt, 1, false}, {10, 1, math.MaxInt, false},
		{10, math.MinInt, math.MinInt, true}, {1, math.MinInt + 1, math.MinInt + 1, true}, {10, math.MinInt, -1, true}, {10, -1, math.MinInt, true},
		{10, math.MaxInt, math.MinInt, true}, {10, math.MinInt, math.MaxInt, true}, {10, math.MaxInt, math.MinInt + 12, false}, {10, math.MaxInt, math.MinInt + 11, true},
		{10, -5, 15, true}, {10, 16, -5, false},
	} {
		r := api.Rules{Cold: c.cold, Cap: 9}
		loads := []api.Load{commands(4, c.b), commands(7, c.a)}
		if c.ok {
			decides(t, a, r, loads, nil, merge(7, 4))
		} else {
			rests(t, a, r, loads, nil)
		}
	}
	decides(t, a, api.Rules{Cold: 1, Cap: 9}, nil, nil, merge(7, 4))
	decides(t, a, api.Rules{Cold: 1, Cap: 9}, []api.Load{commands(7, 9), commands(7, 1)}, nil, merge(7, 4))
	rests(t, a, api.Rules{Cold: 1, Cap: 9}, []api.Load{commands(7, 1), commands(4, 0), commands(7, 2)}, nil)
}

// P12.2, rule 4: which two.
func TestMergeOfTheFirst(t *testing.T) {
	a := loaded(t, quiet(part(7, 0, 2, 0, 1, 2), part(4, 2, 3, 0, 1, 3), part(5, 3, 6, 0, 1, 3), part(2, 6, 7, 0, 1, 3), part(9, 7, 8, 0), part(3, 8, 9, 0, 1, 3)))
	r := api.Rules{Cold: 10, Cap: 9}
	decides(t, a, r, nil, nil, merge(4, 5))
	decides(t, a, r, []api.Load{commands(4, 10)}, nil, merge(4, 5))
	decides(t, a, r, []api.Load{commands(4, 11)}, nil, merge(5, 2))
	decides(t, a, r, []api.Load{commands(4, 6), commands(5, 5), commands(2, 5)}, nil, merge(5, 2))
	rests(t, a, r, []api.Load{commands(5, 11)}, nil)
	rests(t, loaded(t, quiet(part(1, 0, 8, 0))), r, nil, nil)
	rests(t, loaded(t, quiet(part(1, 0, 8, 0), part(2, 8, 9, 1))), r, nil, nil)
	rests(t, loaded(t, quiet(part(1, 0, 8, 0), part(2, 8, 9, 0, 1, 2))), r, nil, nil)
	rests(t, loaded(t, quiet(part(1, 0, 8, 0, 1, 2), part(2, 8, 9, 0))), r, nil, nil)
}

// Rule 4: what is handed in stays as it is.
func TestHandedIn(t *testing.T) {
	a := loaded(t, quiet(part(1, 0, 4, 0, 1, 2), part(2, 4, 8, 0, 1, 2)))
	loads := []api.Load{{Shard: 2, Commands: 1, Insts: 2, Mid: 3}, {Shard: 1, Commands: 4, Insts: 5, Mid: 6}, {Shard: 9}}[:2]
	live := nodes(6, 2, 0, 4, 3)[:3]
	for _, r := range []api.Rules{{Mute: 1, Cap: 9}, {Long: 1, Cap: 9}, {Hot: 1, Cap: 9}, {Cold: 9, Cap: 9}} {
		had := a.Clone()
		if _, ok := warden.Decide(a, r, loads, live); !ok {
			t.Errorf("nothing by %+v", r)
		}
		if !atlas.Same(a, had) {
			t.Errorf("by %+v: the map has changed", r)
		}
	}
	if loads[0] != (api.Load{Shard: 2, Commands: 1, Insts: 2, Mid: 3}) || loads[1] != (api.Load{Shard: 1, Commands: 4, Insts: 5, Mid: 6}) || loads[:3][2] != (api.Load{Shard: 9}) {
		t.Errorf("the loads have changed: %v", loads[:3])
	}
	for i, n := range []int{6, 2, 0, 4, 3} {
		if live[:5][i] != n {
			t.Errorf("the nodes have changed: %v", live[:5])
		}
	}
}
