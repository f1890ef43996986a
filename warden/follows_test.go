package warden_test

import (
	"math/big"
	"slices"
	"testing"

	"lamella/api"
	"lamella/atlas"
	"lamella/warden"
)

// loadOf is the last one of the number.
func loadOf(loads []api.Load, id int) api.Load {
	for _, l := range slices.Backward(loads) {
		if l.Shard == id {
			return l
		}
	}
	return api.Load{}
}

// wanted goes by the words of P12.2, rule by rule, over all that there is.
func wanted(s state, r api.Rules, loads []api.Load, live []int) (api.Change, bool) {
	if len(s.open) > 0 || s.epoch >= r.Cap {
		return api.Change{}, false
	}
	var l []api.Change
	l = append(l, wantedReplaces(s, r, live)...)
	for _, x := range s.shards {
		if r.Long != 0 && loadOf(loads, x.Id).Insts >= r.Long {
			l = append(l, renew(x.Id))
		}
	}
	l = append(l, wantedSplits(s, r, loads)...)
	for i, x := range s.shards {
		if r.Cold == 0 || i == 0 || !slices.Equal(s.shards[i-1].Members, x.Members) {
			continue
		}
		a, b := int64(loadOf(loads, s.shards[i-1].Id).Commands), int64(loadOf(loads, x.Id).Commands)
		if new(big.Int).Add(big.NewInt(a), big.NewInt(b)).Cmp(big.NewInt(int64(r.Cold))) <= 0 {
			l = append(l, merge(s.shards[i-1].Id, x.Id))
		}
	}
	if len(l) == 0 {
		return api.Change{}, false
	}
	return l[0], true
}

func wantedReplaces(s state, r api.Rules, live []int) []api.Change {
	var l []api.Change
	for _, x := range s.shards {
		for _, out := range x.Members {
			for in := 0; in < api.MaxNodes && r.Mute != 0; in++ {
				if !slices.Contains(live, out) && slices.Contains(live, in) && !slices.Contains(x.Members, in) {
					l = append(l, replace(x.Id, out, in))
				}
			}
		}
	}
	return l
}

func wantedSplits(s state, r api.Rules, loads []api.Load) []api.Change {
	var hot []api.Shard
	for _, x := range s.shards {
		if r.Hot != 0 && x.Span.To > x.Span.From+1 && loadOf(loads, x.Id).Commands >= r.Hot {
			hot = append(hot, x)
		}
	}
	slices.SortStableFunc(hot, func(a, b api.Shard) int {
		return loadOf(loads, b.Id).Commands - loadOf(loads, a.Id).Commands
	})
	var l []api.Change
	for _, x := range hot {
		l = append(l, split(x.Id, min(max(loadOf(loads, x.Id).Mid, x.Span.From+1), x.Span.To-1)))
	}
	return l
}

// P12.2, P12.4, P12.5: of drawn maps, rules, loads and nodes; what is decided is done, and asked for anew when it is settled.
func TestDraws(t *testing.T) {
	d := dice(1)
	kinds := map[int]int{}
	for range 40000 {
		s, r, loads, live := drawnMap(d), drawnRules(d), drawnLoads(d), drawnNodes(d)
		if d.Intn(12) == 0 {
			s.open = nodes(s.shards[0].Id)
		}
		c, ok := wanted(s, r, loads, live)
		kinds[c.Kind]++
		if ok {
			decides(t, loaded(t, s), r, loads, live, c)
		} else {
			rests(t, loaded(t, s), r, loads, live)
		}
		if t.Failed() {
			t.Fatalf("the map: %v", s)
		}
	}
	for kind := range api.ChangeSettle {
		if kinds[kind] < 1000 {
			t.Errorf("the kind %d was drawn %d times", kind, kinds[kind])
		}
	}
}

// P12.4, P12.5: a map on its way by what is decided takes each change, and rests from Cap on.
func TestMapsOnTheirWay(t *testing.T) {
	d := dice(2)
	for range 300 {
		a, _ := atlas.New(1+d.Intn(20), drawnMembers(d, api.MaxNodes))
		r := api.Rules{Hot: 1 + d.Intn(9), Cold: 1 + d.Intn(9), Long: 1 + d.Intn(9), Mute: 1, Cap: 2 + d.Intn(20)}
		for range 60 {
			var loads []api.Load
			for _, s := range a.Shards() {
				loads = append(loads, api.Load{Shard: s.Id, Commands: d.Intn(12), Insts: d.Intn(10), Mid: d.Intn(22)})
			}
			c, ok := warden.Decide(a, r, loads, drawnNodes(d))
			if !ok {
				continue
			}
			if e := a.Apply(c); e != api.OK || a.Epoch() > r.Cap {
				t.Fatalf("%+v: error %d, epoch %d of %d", c, e, a.Epoch(), r.Cap)
			}
			rests(t, a, r, loads, drawnNodes(d))
			a.Apply(api.Change{Kind: api.ChangeSettle})
		}
		if a.Epoch() == r.Cap {
			rests(t, a, r, []api.Load{{Shard: a.Next() - 1, Commands: 99, Insts: 99}}, nodes(0, 1, 2, 3, 4, 5, 6))
		}
	}
}

// P12.4: a map whose numbers are used up takes nothing any more, so nothing is decided.
func TestNumbersUsedUp(t *testing.T) {
	loads := []api.Load{{Shard: 1, Commands: 5, Insts: 5, Mid: 3}, commands(2, 4)}
	for r, want := range map[api.Rules]api.Change{
		{Mute: 1, Cap: top}:                           replace(1, 2, 3),
		{Long: 5, Cap: top}:                           renew(1),
		{Hot: 5, Cap: top}:                            split(1, 3),
		{Cold: 9, Cap: top}:                           merge(1, 2),
		{Hot: 5, Cold: 9, Long: 5, Mute: 1, Cap: top}: replace(1, 2, 3),
	} {
		s := quiet(part(1, 0, 5, 0, 1, 2), part(2, 5, 8, 0, 1, 2))
		for _, next := range []int{3, top - 1, top} {
			s.next = next
			decides(t, loaded(t, s), r, loads, nodes(0, 1, 3), want)
		}
		for _, next := range []int{top + 1, top + 2} {
			s.next = next
			rests(t, loaded(t, s), r, loads, nodes(0, 1, 3))
		}
	}
}

// P6: the same is decided again.
func TestAgain(t *testing.T) {
	d := dice(3)
	for range 2000 {
		s, r, loads, live := drawnMap(d), drawnRules(d), drawnLoads(d), drawnNodes(d)
		a := loaded(t, s)
		c, ok := warden.Decide(a, r, loads, live)
		for range 3 {
			if x, again := warden.Decide(a, r, loads, live); x != c || again != ok {
				t.Fatalf("%+v, %v, and then %+v, %v", c, ok, x, again)
			}
		}
	}
}
