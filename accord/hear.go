package accord

import (
	"slices"

	"lamella/api"
	"lamella/graph"
	"lamella/insts"
)

// mostTold is how many decided instances a MailNext is answered with.
const mostTold = 16

// Hear: P8.4.
func (r *Replica) Hear(m api.Mail) api.Out {
	var out api.Out
	if r == nil || !r.minds(m) {
		return out
	}
	switch m.Kind {
	case api.MailPre, api.MailTake, api.MailAsk:
		r.hearTry(&out, m)
	case api.MailPreOk:
		r.answer(&out, first, m.From, m.Inst)
	case api.MailTakeOk:
		r.answer(&out, second, m.From, m.Inst)
	case api.MailTell:
		r.answer(&out, asking, m.From, m.Inst)
	case api.MailCommit:
		r.hearCommit(&out, m.Inst)
	case api.MailNo:
		r.hearNo(m.Inst)
	case api.MailNext:
		r.hearNext(&out, m)
	}
	return out
}

// minds: is it a mail that says something?
func (r *Replica) minds(m api.Mail) bool {
	return m.To == r.self && m.From != r.self && r.isMember(m.From) && m.Shard == r.shard &&
		insts.May(m.Inst) && r.isMember(m.Inst.Ref.Lead) && mayTell(m.Kind, m.Inst.Status)
}

// mayTell: is it a shard's kind of mail, and one that tells instances which are so far?
func mayTell(kind, status int) bool {
	switch kind {
	case api.MailPre, api.MailPreOk:
		return status == api.Seen
	case api.MailTake, api.MailTakeOk:
		return status == api.Taken
	case api.MailCommit:
		return status == api.Done
	case api.MailAsk, api.MailTell, api.MailNo, api.MailNext:
		return true
	}
	return false
}

// hearTry answers a mail of another one's try: it is refused, if the instance is decided, or waits for a greater ballot.
func (r *Replica) hearTry(out *api.Out, m api.Mail) {
	x := r.known(m.Inst.Ref)
	switch {
	case x.Status == api.Done:
		r.post(out, api.MailCommit, x, m.From)
		return
	case insts.LessBallot(m.Inst.Ballot, x.Ballot):
		r.post(out, api.MailNo, api.Inst{Ref: x.Ref, Ballot: x.Ballot}, m.From)
		return
	}
	delete(r.ages, x.Ref)
	switch m.Kind {
	case api.MailPre:
		r.hearPre(out, m, x)
	case api.MailTake:
		r.hearTake(out, m, x)
	case api.MailAsk:
		r.hearAsk(out, m, x)
	}
}

func (r *Replica) hearPre(out *api.Out, m api.Mail, x api.Inst) {
	y := m.Inst
	lead := y.Ref.Lead
	if y.Ballot.N == 0 && (m.From != lead || y.Ballot.Node != lead) {
		return
	}
	if votedFor(x, y.Ballot) {
		if x.Status == api.Seen {
			r.post(out, api.MailPreOk, x, m.From)
		}
		return
	}
	seq, deps := r.table.Order(y.Cmd, y.Ref)
	seq, deps = max(seq, y.Seq), graph.Refs(deps, y.Deps)
	same := y.Ballot.N == 0 && seq == y.Seq && slices.Equal(deps, y.Deps)
	r.follow(out, m, api.MailPreOk, api.Inst{
		Ref: y.Ref, Ballot: y.Ballot, Vote: y.Ballot, Status: api.Seen, Same: same, Cmd: y.Cmd, Seq: seq, Deps: deps,
	})
}

func (r *Replica) hearTake(out *api.Out, m api.Mail, x api.Inst) {
	y := m.Inst
	if x.Status == api.Taken && votedFor(x, y.Ballot) {
		r.post(out, api.MailTakeOk, x, m.From)
		return
	}
	y.Vote, y.Same = y.Ballot, false
	r.follow(out, m, api.MailTakeOk, y)
}

func (r *Replica) hearAsk(out *api.Out, m api.Mail, x api.Inst) {
	if x.Ballot == m.Inst.Ballot {
		r.post(out, api.MailTell, x, m.From)
		return
	}
	x.Ballot = m.Inst.Ballot
	r.follow(out, m, api.MailTell, x)
}

// votedFor: has x its status by that ballot? Of what nothing is known there is no vote, though it looks like that of the ballot zero.
func votedFor(x api.Inst, b api.Ballot) bool {
	return x.Status != api.None && x.Vote == b
}

// follow keeps x, as another one's try wants it, and answers it; a try of self's own with a lower ballot can't succeed any more.
func (r *Replica) follow(out *api.Out, m api.Mail, kind int, x api.Inst) {
	if !r.keep(out, x) {
		return
	}
	r.endBelow(x.Ref, x.Ballot)
	r.post(out, kind, x, m.From)
}

func (r *Replica) hearCommit(out *api.Out, y api.Inst) {
	x := r.known(y.Ref)
	if x.Status == api.Done {
		return
	}
	if insts.LessBallot(y.Ballot, x.Ballot) {
		y.Ballot = x.Ballot
	}
	r.settle(out, y)
}

func (r *Replica) hearNo(y api.Inst) {
	if r.known(y.Ref).Status == api.Done {
		return
	}
	r.denied[y.Ref] = max(r.denied[y.Ref], y.Ballot.N)
	r.endBelow(y.Ref, y.Ballot)
}

func (r *Replica) hearNext(out *api.Out, m api.Mail) {
	from := m.Inst.Ref
	if r.table.Next(from.Lead) <= from.Index {
		return // as it mostly is: so all need not be gone through
	}
	for x := range r.table.Each() {
		if len(out.Mails) == mostTold {
			return
		}
		if x.Ref.Lead == from.Lead && x.Ref.Index >= from.Index && x.Status == api.Done {
			r.post(out, api.MailCommit, x, m.From)
		}
	}
}
