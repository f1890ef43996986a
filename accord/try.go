package accord

import (
	"slices"

	"lamella/api"
	"lamella/graph"
	"lamella/insts"
)

// The phases of a try.
const (
	first = iota
	second
	asking
)

// attempt is a try: what self does to have an instance decided, with one ballot.
type attempt struct {
	phase    int
	ballot   api.Ballot
	told     api.Inst               // what the phase's mails tell
	answered [api.MaxNodes]bool     // who has answered in the phase, self among them
	straight bool                   // of the first phase: all answers so far are what was told
	seq      int                    // of the first phase: the greatest Seq,
	deps     []api.Ref              // and all Deps so far
	tells    [api.MaxNodes]api.Inst // of the asking phase: what each one that answered knows
	age      int
}

// mail is the kind that the phase's mails are of.
func (t *attempt) mail() int {
	switch t.phase {
	case first:
		return api.MailPre
	case second:
		return api.MailTake
	default:
		return api.MailAsk
	}
}

func (t *attempt) hasAnswered(node int) bool { return t.answered[node] }

// spread begins a first phase with x, which was kept.
func (r *Replica) spread(out *api.Out, t *attempt, x api.Inst) {
	t.phase, t.seq, t.deps = first, x.Seq, x.Deps
	r.begin(out, t, x)
}

// take begins a second phase with the command, the Seq and the Deps of x.
func (r *Replica) take(out *api.Out, t *attempt, ref api.Ref, x api.Inst) {
	x.Ref, x.Ballot, x.Vote, x.Status, x.Same = ref, t.ballot, t.ballot, api.Taken, false
	if !r.keep(out, x) {
		delete(r.tries, ref)
		return
	}
	t.phase = second
	r.begin(out, t, x)
}

// ask begins an asking phase.
func (r *Replica) ask(out *api.Out, ref api.Ref) {
	x := r.known(ref)
	x.Ballot = api.Ballot{N: max(x.Ballot.N, r.denied[ref]) + 1, Node: r.self}
	if !r.keep(out, x) {
		return
	}
	t := &attempt{phase: asking, ballot: x.Ballot}
	t.tells[r.self] = x
	r.tries[ref] = t
	r.begin(out, t, api.Inst{Ref: ref, Ballot: x.Ballot})
}

// begin sends the phase's mail to all others. Self counts as one that has answered, which is enough where it is alone.
func (r *Replica) begin(out *api.Out, t *attempt, told api.Inst) {
	t.told = clone(told)
	t.answered = [api.MaxNodes]bool{}
	t.answered[r.self] = true
	r.post(out, t.mail(), told, r.others()...)
	r.goOn(out, t)
}

// goOn leaves the phase, if enough have answered.
func (r *Replica) goOn(out *api.Out, t *attempt) {
	n := len(r.seek(t.hasAnswered))
	switch t.phase {
	case first:
		if t.straight && n >= r.fastQuorum() {
			r.decide(out, t)
		} else if !t.straight && n >= r.majority() {
			r.agree(out, t)
		}
	case second:
		if n >= r.majority() {
			r.decide(out, t)
		}
	case asking:
		if n >= r.majority() {
			r.mend(out, t)
		}
	}
}

// agree goes from the first phase to the second one.
func (r *Replica) agree(out *api.Out, t *attempt) {
	x := r.known(t.told.Ref)
	x.Seq, x.Deps = t.seq, t.deps
	r.take(out, t, x.Ref, x)
}

// decide ends the try: x, as it was kept last, holds.
func (r *Replica) decide(out *api.Out, t *attempt) {
	x := r.known(t.told.Ref)
	x.Status = api.Done
	if r.settle(out, x) {
		r.post(out, api.MailCommit, x, r.others()...)
	}
}

// settle keeps what is decided: from now on nothing of it is waited for.
func (r *Replica) settle(out *api.Out, x api.Inst) bool {
	delete(r.tries, x.Ref)
	if !r.keep(out, x) {
		return false
	}
	delete(r.ages, x.Ref)
	delete(r.denied, x.Ref)
	return true
}

// mend goes on from the asking phase by what was told: P8.6.
func (r *Replica) mend(out *api.Out, t *attempt) {
	ref := t.told.Ref
	taken := r.answers(t, func(_ int, x api.Inst) bool { return x.Status == api.Taken })
	seen := r.answers(t, func(_ int, x api.Inst) bool { return x.Status == api.Seen })
	same := r.answers(t, func(n int, x api.Inst) bool {
		return x.Status == api.Seen && x.Same && x.Vote == api.Ballot{Node: ref.Lead} && n != ref.Lead
	})
	switch {
	case len(taken) > 0:
		r.take(out, t, ref, slices.MaxFunc(taken, compareVotes))
	case len(same) >= max(r.half(), 1):
		r.take(out, t, ref, same[0])
	case len(seen) > 0:
		r.again(out, t, seen)
	default:
		r.take(out, t, ref, api.Inst{})
	}
}

// answers is what was told in the asking phase, and fits, by the nodes that told it.
func (r *Replica) answers(t *attempt, fits func(node int, x api.Inst) bool) []api.Inst {
	var l []api.Inst
	for _, n := range r.seek(t.hasAnswered) {
		if fits(n, t.tells[n]) {
			l = append(l, t.tells[n])
		}
	}
	return l
}

func compareVotes(a, b api.Inst) int {
	switch {
	case insts.LessBallot(a.Vote, b.Vote):
		return -1
	case insts.LessBallot(b.Vote, a.Vote):
		return 1
	}
	return 0
}

// again begins a first phase with the command of those that have seen it, behind all that they know of and self does.
func (r *Replica) again(out *api.Out, t *attempt, seen []api.Inst) {
	x := api.Inst{Ref: t.told.Ref, Ballot: t.ballot, Vote: t.ballot, Status: api.Seen, Cmd: seen[0].Cmd}
	x.Seq, x.Deps = r.table.Order(x.Cmd, x.Ref)
	for _, y := range seen {
		x.Seq, x.Deps = max(x.Seq, y.Seq), graph.Refs(x.Deps, y.Deps)
	}
	if !r.keep(out, x) {
		delete(r.tries, x.Ref)
		return
	}
	r.spread(out, t, x)
}

// answer counts an answer to the try of x, if it has one in that phase with that ballot, each member once.
func (r *Replica) answer(out *api.Out, phase, from int, x api.Inst) {
	t, in := r.tries[x.Ref]
	if !in || t.phase != phase || t.ballot != x.Ballot || t.answered[from] {
		return
	}
	t.answered[from] = true
	switch phase {
	case first:
		t.straight = t.straight && x.Seq == t.told.Seq && slices.Equal(x.Deps, t.told.Deps)
		t.seq, t.deps = max(t.seq, x.Seq), graph.Refs(t.deps, x.Deps)
	case asking:
		t.tells[from] = clone(x)
	}
	r.goOn(out, t)
}

// endBelow ends a try of the Ref that has a lower ballot.
func (r *Replica) endBelow(ref api.Ref, b api.Ballot) {
	if t, in := r.tries[ref]; in && insts.LessBallot(t.ballot, b) {
		delete(r.tries, ref)
	}
}
