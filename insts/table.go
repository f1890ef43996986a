package insts

import (
	"iter"

	"lamella/api"
	"lamella/blocks"
	"lamella/graph"
)

// Table is what a node knows of a shard's instances. The lists of an instance that stands in it are the table's own, and never written again: so a loop that has begun goes on over what there was.
type Table struct {
	insts map[api.Ref]api.Inst
}

// New: P7.3.
func New() *Table { return &Table{insts: map[api.Ref]api.Inst{}} }

// Put: P7.3.
func (t *Table) Put(x api.Inst) api.Errno {
	if t == nil {
		return api.ErrNone
	}
	if !May(x) {
		return api.ErrArg
	}
	if _, in := t.insts[x.Ref]; !in && len(t.insts) >= api.MaxList {
		return api.ErrBig
	}
	t.insts[x.Ref] = clone(x)
	return api.OK
}

// Get: P7.3.
func (t *Table) Get(r api.Ref) (api.Inst, bool) {
	if t == nil {
		return api.Inst{}, false
	}
	x, in := t.insts[r]
	return clone(x), in
}

// Len: P7.3.
func (t *Table) Len() int {
	if t == nil {
		return 0
	}
	return len(t.insts)
}

// Next: P7.3.
func (t *Table) Next(lead int) int {
	last := 0
	for x := range t.known() {
		if x.Ref.Lead == lead {
			last = max(last, x.Ref.Index)
		}
	}
	return last + 1
}

// Order: P7.4.
func (t *Table) Order(c api.Cmd, self api.Ref) (int, []api.Ref) {
	last := 0
	var deps []api.Ref
	for x := range t.known() {
		if x.Status >= api.Seen && x.Ref != self && blocks.Meddle(x.Cmd, c) {
			last = max(last, x.Seq)
			deps = append(deps, x.Ref)
		}
	}
	return last + 1, graph.Refs(deps)
}

// Each: P7.3.
func (t *Table) Each() iter.Seq[api.Inst] {
	return func(yield func(api.Inst) bool) {
		for _, x := range t.rising() {
			if !yield(clone(x)) {
				return
			}
		}
	}
}

// Clone: P7.3.
func (t *Table) Clone() *Table {
	if t == nil {
		return nil
	}
	other := New()
	for x := range t.known() {
		other.insts[x.Ref] = clone(x)
	}
	return other
}

// known goes over the instances as they stand in the table, in no order of their own: nothing that is told may hang on it.
func (t *Table) known() iter.Seq[api.Inst] {
	return func(yield func(api.Inst) bool) {
		if t == nil {
			return
		}
		for _, x := range t.insts {
			if !yield(x) {
				return
			}
		}
	}
}

// rising is the instances that there are now, by their Refs.
func (t *Table) rising() []api.Inst {
	var refs []api.Ref
	for x := range t.known() {
		refs = append(refs, x.Ref)
	}
	var l []api.Inst
	for _, r := range graph.Refs(refs) {
		l = append(l, t.insts[r])
	}
	return l
}
