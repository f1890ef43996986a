package graph

import "slices"

// walk goes along needs and finds the components: Tarjan's way, but with a stack of its own instead of calls, so that it goes no deeper the longer the needs are. Nodes are told by their places.
type walk struct {
	needs [][]int
	next  []int // of each node, which of its needs is looked at next
	came  int   // how many nodes were come to
	num   []int // which one the node was of these, from 1 on; 0: it wasn't come to yet
	low   []int // the least number that the node is known to lead back to
	stack []int // the way from where the walk began to where it is
	loose []int // what was come to and is in no component yet, in this order
	put   []bool
	parts [][]int
}

// components are those of all nodes, each by the places of its members.
func components(needs [][]int) [][]int {
	n := len(needs)
	w := &walk{needs: needs, next: make([]int, n), num: make([]int, n), low: make([]int, n), put: make([]bool, n)}
	for p := range needs {
		if w.num[p] == 0 {
			w.run(p)
		}
	}
	return w.parts
}

// run goes to all that the node at from needs and that is new.
func (w *walk) run(from int) {
	w.come(from)
way:
	for len(w.stack) > 0 {
		top := w.stack[len(w.stack)-1]
		for w.next[top] < len(w.needs[top]) {
			p := w.needs[top][w.next[top]]
			w.next[top]++
			if w.num[p] == 0 {
				w.come(p)
				continue way
			}
			if !w.put[p] {
				w.low[top] = min(w.low[top], w.num[p])
			}
		}
		w.leave(top)
	}
}

func (w *walk) come(p int) {
	w.came++
	w.num[p], w.low[p] = w.came, w.came
	w.stack = append(w.stack, p)
	w.loose = append(w.loose, p)
}

// leave takes the top from the stack. If it leads back to none ahead of it, it is the first one of its component that was come to, and the others are all that came behind it and are loose.
func (w *walk) leave(top int) {
	w.stack = w.stack[:len(w.stack)-1]
	if len(w.stack) > 0 {
		under := w.stack[len(w.stack)-1]
		w.low[under] = min(w.low[under], w.low[top])
	}
	if w.low[top] < w.num[top] {
		return
	}
	from := len(w.loose)
	for !w.put[top] {
		from--
		w.put[w.loose[from]] = true
	}
	w.parts = append(w.parts, slices.Clone(w.loose[from:]))
	w.loose = w.loose[:from]
}
