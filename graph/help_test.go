package graph_test

import (
	"math/rand"
	"slices"
	"testing"

	"lamella/api"
	"lamella/graph"
)

func ref(lead, index int) api.Ref { return api.Ref{Lead: lead, Index: index} }

// inst is an instance that is Done.
func inst(r api.Ref, seq int, deps ...api.Ref) api.Inst {
	return api.Inst{Ref: r, Status: api.Done, Seq: seq, Deps: deps}
}

// with is x with another status.
func with(x api.Inst, status int) api.Inst {
	x.Status = status
	return x
}

// plans asks for a plan, and says if it is another one.
func plans(t *testing.T, what string, l []api.Inst, done, order, wants []api.Ref) {
	t.Helper()
	o, w := graph.Plan(l, done)
	if !slices.Equal(o, order) || !slices.Equal(w, wants) {
		t.Errorf("%s: order %v, wants %v; not %v, %v", what, o, w, order, wants)
	}
}

// falls asks for components, and says if they are others.
func falls(t *testing.T, what string, l []api.Inst, rows ...[]api.Ref) {
	t.Helper()
	if got := graph.Components(l); !slices.EqualFunc(got, rows, slices.Equal) {
		t.Errorf("%s: %v, not %v", what, got, rows)
	}
}

// refs is a list of Refs as it may be written by hand.
func refs(l ...api.Ref) []api.Ref { return l }

// lesser is Less by a rule of the tests' own.
func lesser(a, b api.Ref) bool {
	if a.Lead != b.Lead {
		return a.Lead < b.Lead
	}
	return a.Index < b.Index
}

// rising is what stands in l, rising, each once, by putting each where it belongs.
func rising(l []api.Ref) []api.Ref {
	var out []api.Ref
	for _, r := range l {
		at := 0
		for at < len(out) && lesser(out[at], r) {
			at++
		}
		if at == len(out) || out[at] != r {
			out = slices.Insert(out, at, r)
		}
	}
	return out
}

// model is nodes, and which of them needs what, as the document tells it: told by going round till nothing new comes.
type model struct {
	nodes map[api.Ref]api.Inst
	refs  []api.Ref
	needs map[api.Ref]map[api.Ref]bool
}

func modelOf(l []api.Inst, done []api.Ref) *model {
	m := &model{nodes: map[api.Ref]api.Inst{}, needs: map[api.Ref]map[api.Ref]bool{}}
	for _, x := range l {
		if _, twice := m.nodes[x.Ref]; !twice {
			m.nodes[x.Ref] = x
			m.refs = append(m.refs, x.Ref)
			m.needs[x.Ref] = map[api.Ref]bool{}
		}
	}
	for again := true; again; {
		again = false
		for _, r := range m.refs {
			if slices.Contains(done, r) {
				continue
			}
			for _, d := range m.nodes[r].Deps {
				again = m.need(r, d) || again
				for n := range m.needs[d] {
					again = m.need(r, n) || again
				}
			}
		}
	}
	return m
}

// need says whether that is new.
func (m *model) need(r, d api.Ref) bool {
	if r == d || m.needs[r][d] {
		return false
	}
	m.needs[r][d] = true
	return true
}

// first says whether the node a goes ahead of b by Seq, then by Less.
func (m *model) first(a, b api.Ref) bool {
	if x, y := m.nodes[a].Seq, m.nodes[b].Seq; x != y {
		return x < y
	}
	return lesser(a, b)
}

// components takes, again and again, the first one of those that may come next.
func (m *model) components() [][]api.Ref {
	var left, out [][]api.Ref
	for _, r := range m.refs {
		if !slices.ContainsFunc(left, func(c []api.Ref) bool { return slices.Contains(c, r) }) {
			left = append(left, m.together(r))
		}
	}
	for len(left) > 0 {
		best := -1
		for i, c := range left {
			if m.may(c, left) && (best < 0 || m.first(c[0], left[best][0])) {
				best = i
			}
		}
		out = append(out, left[best])
		left = slices.Delete(left, best, best+1)
	}
	return out
}

// together is the component of r.
func (m *model) together(r api.Ref) []api.Ref {
	c := refs(r)
	for _, o := range m.refs {
		if o != r && m.needs[r][o] && m.needs[o][r] {
			at := 0
			for at < len(c) && m.first(c[at], o) {
				at++
			}
			c = slices.Insert(c, at, o)
		}
	}
	return c
}

// may says whether c needs none of the others that are left.
func (m *model) may(c []api.Ref, left [][]api.Ref) bool {
	for _, o := range left {
		if o[0] != c[0] && m.needs[c[0]][o[0]] {
			return false
		}
	}
	return true
}

// modelPlan is Plan, word by word.
func modelPlan(l []api.Inst, done []api.Ref) (order, wants []api.Ref) {
	m := modelOf(l, done)
	decided := func(r api.Ref) bool { return m.nodes[r].Status == 3 }
	var ready []api.Inst
	for _, r := range m.refs {
		if !decided(r) || slices.Contains(done, r) {
			continue
		}
		ok := true
		for n := range m.needs[r] {
			if !slices.Contains(done, n) && !decided(n) {
				ok = false
				wants = append(wants, n)
			}
		}
		if ok {
			ready = append(ready, m.nodes[r])
		}
	}
	return slices.Concat(modelOf(ready, nil).components()...), rising(wants)
}

// dice draws what the tests hold against the model.
type dice struct{ *rand.Rand }

func newDice(seed int64) dice { return dice{rand.New(rand.NewSource(seed))} }

// some is up to n of a few Refs, some of them twice.
func (d dice) some(n int) []api.Ref {
	var l []api.Ref
	for range d.Intn(n + 1) {
		l = append(l, ref(d.Intn(3), 1+d.Intn(4)))
	}
	return l
}

// insts are up to n ones, of few Refs and Seqs, some with the Ref of another one, most of them Done.
func (d dice) insts(n, deps int) []api.Inst {
	var l []api.Inst
	for range d.Intn(n + 1) {
		x := inst(ref(d.Intn(3), 1+d.Intn(4)), d.Intn(4), d.some(deps)...)
		if d.Intn(6) == 0 {
			x.Status = d.Intn(6) - 1
		}
		l = append(l, x)
	}
	return l
}

// world is one instance for each of n Refs, all Done, with Deps among them alone.
func (d dice) world(n, deps int) []api.Inst {
	var l []api.Inst
	for i := range n {
		l = append(l, inst(ref(i%3, 1+i/3), d.Intn(4)))
	}
	for i := range l {
		for range d.Intn(deps + 1) {
			l[i].Deps = append(l[i].Deps, l[d.Intn(n)].Ref)
		}
	}
	d.Shuffle(n, func(i, j int) { l[i], l[j] = l[j], l[i] })
	return l
}

// part is some of l, in their order.
func (d dice) part(l []api.Inst) []api.Inst {
	var p []api.Inst
	for _, x := range l {
		if d.Intn(3) > 0 {
			p = append(p, x)
		}
	}
	return p
}
