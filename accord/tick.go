package accord

import (
	"maps"
	"slices"

	"lamella/api"
	"lamella/graph"
	"lamella/insts"
)

// The ticks of P8.7, and how many instances of a member may lack.
const (
	tryTicks   = 4
	waitTicks  = 8
	placeTicks = 4
	nextTicks  = 8
	mostLacks  = 64
)

// Tick: P8.7.
func (r *Replica) Tick(wants []api.Ref) api.Out {
	var out api.Out
	if r == nil {
		return out
	}
	for _, ref := range graph.Refs(slices.Collect(maps.Keys(r.tries))) {
		r.ageTry(&out, r.tries[ref])
	}
	for _, ref := range r.waiting(wants) {
		r.ageWait(&out, ref)
	}
	r.ticks++
	if r.ticks%nextTicks == 0 {
		r.askNext(&out)
	}
	return out
}

// ageTry makes a try older: it doesn't wait for a fast quorum for ever, nor for mails that were lost.
func (r *Replica) ageTry(out *api.Out, t *attempt) {
	t.age++
	if t.age%tryTicks != 0 {
		return
	}
	if t.phase == first && t.straight && len(r.seek(t.hasAnswered)) >= r.majority() {
		t.straight = false
		r.goOn(out, t)
		return
	}
	silent := r.seek(func(n int) bool { return !t.answered[n] })
	r.post(out, t.mail(), t.told, silent...)
}

// waiting is what is to be decided, and has no try, rising.
func (r *Replica) waiting(wants []api.Ref) []api.Ref {
	var all, open []api.Ref
	for x := range r.table.Each() {
		all = append(all, x.Ref)
		if x.Status != api.Done {
			open = append(open, x.Ref)
		}
	}
	for _, ref := range wants {
		if mayRef(ref) && r.isMember(ref.Lead) && r.known(ref).Status != api.Done {
			open = append(open, ref)
		}
	}
	return slices.DeleteFunc(graph.Refs(open, lacking(all)), func(ref api.Ref) bool { return r.tries[ref] != nil })
}

// lacking is what stands below the greatest Index of its Lead and isn't among all, which rise.
func lacking(all []api.Ref) []api.Ref {
	var l []api.Ref
	next, left := api.Ref{Lead: -1}, 0
	for _, ref := range all {
		if ref.Lead != next.Lead {
			next, left = api.Ref{Lead: ref.Lead, Index: 1}, mostLacks
		}
		for next.Index < ref.Index && left > 0 {
			l = append(l, next)
			next.Index++
			left--
		}
		next.Index = ref.Index + 1
	}
	return l
}

// mayRef: may it be an instance's?
func mayRef(ref api.Ref) bool { return insts.May(api.Inst{Ref: ref}) }

// ageWait makes what waits older. Members begin to ask one behind the other, so that they don't hinder each other.
func (r *Replica) ageWait(out *api.Out, ref api.Ref) {
	r.ages[ref]++
	behind := (r.place(r.self) - r.place(ref.Lead) + len(r.members)) % len(r.members)
	if r.ages[ref] >= waitTicks+placeTicks*behind {
		delete(r.ages, ref)
		r.ask(out, ref)
	}
}

// askNext asks all others for what stands behind all that self knows of.
func (r *Replica) askNext(out *api.Out) {
	for _, lead := range r.members {
		ref := api.Ref{Lead: lead, Index: r.table.Next(lead)}
		if mayRef(ref) {
			r.post(out, api.MailNext, api.Inst{Ref: ref}, r.others()...)
		}
	}
}
