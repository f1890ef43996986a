package graph

import (
	"cmp"

	"lamella/api"
)

// set is Refs, each once, in the order in which they came: so nothing that is told from it hangs on the order of a map.
type set struct {
	list []api.Ref
	at   map[api.Ref]int
}

func gather(l []api.Ref) *set {
	s := &set{at: make(map[api.Ref]int, len(l))}
	for _, r := range l {
		s.add(r)
	}
	return s
}

// add says whether r is new.
func (s *set) add(r api.Ref) bool {
	if s.has(r) {
		return false
	}
	s.at[r] = len(s.list)
	s.list = append(s.list, r)
	return true
}

func (s *set) has(r api.Ref) bool {
	_, in := s.at[r]
	return in
}

// reach is all that the Refs of from lead to, they among it, where next tells what stands one step on.
func reach(from []api.Ref, next func(api.Ref) []api.Ref) *set {
	s := gather(from)
	for i := 0; i < len(s.list); i++ {
		for _, r := range next(s.list[i]) {
			s.add(r)
		}
	}
	return s
}

// turned tells the other way round what next tells of the Refs of l.
func turned(l []api.Ref, next func(api.Ref) []api.Ref) func(api.Ref) []api.Ref {
	back := map[api.Ref][]api.Ref{}
	for _, r := range l {
		for _, n := range next(r) {
			back[n] = append(back[n], r)
		}
	}
	return func(r api.Ref) []api.Ref { return back[r] }
}

// pick is what take takes of l.
func pick(l []api.Ref, take func(api.Ref) bool) []api.Ref {
	var taken []api.Ref
	for _, r := range l {
		if take(r) {
			taken = append(taken, r)
		}
	}
	return taken
}

// known is nodes: the Ref at a place of refs is that of the instance at the same place.
type known struct {
	refs  *set
	insts []api.Inst
}

// knowing: P6.2, of two with one Ref the first one.
func knowing(l []api.Inst) *known {
	k := &known{refs: gather(nil)}
	for _, x := range l {
		if k.refs.add(x.Ref) {
			k.insts = append(k.insts, x)
		}
	}
	return k
}

// node is the zero value of what is no node.
func (k *known) node(r api.Ref) (api.Inst, bool) {
	at, in := k.refs.at[r]
	if !in {
		return api.Inst{}, false
	}
	return k.insts[at], true
}

// nodes are those of l.
func (k *known) nodes(l []api.Ref) []api.Inst {
	var nodes []api.Inst
	for _, r := range l {
		if x, in := k.node(r); in {
			nodes = append(nodes, x)
		}
	}
	return nodes
}

// needs are, for each node's place, the places of the nodes in its Deps. What is no node needs nothing, and is in no component, so it is left out.
func (k *known) needs() [][]int {
	needs := make([][]int, len(k.insts))
	for i, x := range k.insts {
		for _, r := range x.Deps {
			if at, in := k.refs.at[r]; in && at != i {
				needs[i] = append(needs[i], at)
			}
		}
	}
	return needs
}

// compare orders the nodes at two places by Seq, then by their Refs.
func (k *known) compare(a, b int) int {
	x, y := k.insts[a], k.insts[b]
	return cmp.Or(cmp.Compare(x.Seq, y.Seq), compare(x.Ref, y.Ref))
}

// tell is the Refs of the nodes at these places.
func (k *known) tell(places []int) []api.Ref {
	told := make([]api.Ref, 0, len(places))
	for _, p := range places {
		told = append(told, k.refs.list[p])
	}
	return told
}
