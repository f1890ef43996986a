package accord_test

import (
	"slices"
	"testing"

	"lamella/accord"
	"lamella/api"
)

// others is the members but self.
func others(members []int, self int) []int {
	return slices.DeleteFunc(slices.Clone(members), func(n int) bool { return n == self })
}

// tried is a replica of the member 0 with one try in its first phase, told with Seq 6 and Deps of {2, 1}.
func tried(t *testing.T, members []int) (*accord.Replica, api.Inst) {
	t.Helper()
	r := begins(t, 0, members, done(ref(2, 1), ballot(0, 2), write(2, 1, 0), 5))
	x, _ := proposes(t, r, write(1, 1, 0))
	return r, same(seen(x, ballot(0, 0), write(1, 1, 0), 6, ref(2, 1)))
}

// P8.5: a fast quorum of a straight one: decided.
func TestFastQuorums(t *testing.T) {
	for size, quorum := range map[int]int{3: 2, 5: 4, 7: 6} {
		members := seven()[:size]
		r, x := tried(t, members)
		for n := 1; n < quorum-1; n++ {
			tells(t, "too few", r, mail(api.MailPreOk, n, 0, x))
		}
		out := r.Hear(mail(api.MailPreOk, size-1, 0, x))
		asks(t, "a fast quorum", out, saves(as(api.Done, x)), mails(api.MailCommit, 0, as(api.Done, x), others(members, 0)...)...)
		has(t, "a fast quorum", r, 0, as(api.Done, x), done(ref(2, 1), ballot(0, 2), write(2, 1, 0), 5))
		for n := 1; n < size; n++ {
			asksNothing(t, "late", r.Hear(mail(api.MailPreOk, n, 0, x)))
		}
	}
}

// P8.5: a majority of one that isn't straight goes on with the greatest Seq and all Deps; a majority of takes: decided.
func TestMajorities(t *testing.T) {
	for size, majority := range map[int]int{3: 2, 5: 3, 7: 4} {
		members := seven()[:size]
		r, x := tried(t, members)
		y := seen(x.Ref, ballot(0, 0), x.Cmd, 6, ref(1, 3), ref(2, 1))
		z := seen(x.Ref, ballot(0, 0), x.Cmd, 9, ref(2, 1), ref(2, 4))
		want := taken(x.Ref, ballot(0, 0), x.Cmd, 9, ref(1, 3), ref(2, 1), ref(2, 4))
		if majority == 2 {
			want = taken(x.Ref, ballot(0, 0), x.Cmd, 9, ref(2, 1), ref(2, 4))
		} else {
			tells(t, "too few", r, mail(api.MailPreOk, 1, 0, y))
		}
		for n := 2; n < majority-1; n++ {
			tells(t, "too few", r, mail(api.MailPreOk, n, 0, x))
		}
		out := r.Hear(mail(api.MailPreOk, size-1, 0, z))
		asks(t, "a majority", out, saves(want), mails(api.MailTake, 0, want, others(members, 0)...)...)
		for n := 1; n < majority-1; n++ {
			tells(t, "too few takes", r, mail(api.MailTakeOk, n, 0, want))
		}
		out = r.Hear(mail(api.MailTakeOk, size-1, 0, want))
		asks(t, "a majority", out, saves(as(api.Done, want)), mails(api.MailCommit, 0, as(api.Done, want), others(members, 0)...)...)
		has(t, "a majority", r, 0, as(api.Done, want), done(ref(2, 1), ballot(0, 2), write(2, 1, 0), 5))
		asksNothing(t, "late", r.Hear(mail(api.MailTakeOk, 1, 0, want)))
	}
}

// P8.5: it is straight as long as Seq and Deps are those that were told, whatever else the answers say.
func TestStraight(t *testing.T) {
	for _, l := range []struct {
		what     string
		straight bool
		change   func(x *api.Inst, m *api.Mail)
	}{
		{"as it was told", true, func(x *api.Inst, m *api.Mail) {}},
		{"not Ok", true, func(x *api.Inst, m *api.Mail) { m.Ok = false }},
		{"not Same", true, func(x *api.Inst, m *api.Mail) { x.Same = false }},
		{"a greater Seq", false, func(x *api.Inst, m *api.Mail) { x.Seq = 7 }},
		{"a lower Seq", false, func(x *api.Inst, m *api.Mail) { x.Seq = 5 }},
		{"more Deps", false, func(x *api.Inst, m *api.Mail) { x.Deps = refs(ref(1, 1), ref(2, 1)) }},
		{"other Deps", false, func(x *api.Inst, m *api.Mail) { x.Deps = refs(ref(1, 1)) }},
		{"no Deps", false, func(x *api.Inst, m *api.Mail) { x.Deps = nil }},
	} {
		r, x := tried(t, three())
		m := mail(api.MailPreOk, 2, 0, x)
		l.change(&m.Inst, &m)
		out := r.Hear(m)
		want := as(api.Done, x)
		if !l.straight {
			want = taken(x.Ref, ballot(0, 0), x.Cmd, max(6, m.Inst.Seq), x.Deps...)
			if slices.Contains(m.Inst.Deps, ref(1, 1)) {
				want.Deps = refs(ref(1, 1), ref(2, 1))
			}
		}
		if len(out.Saves) != 1 || !alike(out.Saves[0], want) {
			t.Errorf("%s: keeps %v, not %v", l.what, out.Saves, want)
		}
	}
}

// P8.5: one that has a majority, and then isn't straight any more, goes on.
func TestStraightNoMore(t *testing.T) {
	r, x := tried(t, seven())
	for n := 1; n <= 4; n++ {
		tells(t, "straight", r, mail(api.MailPreOk, n, 0, x))
	}
	out := r.Hear(mail(api.MailPreOk, 5, 0, seen(x.Ref, ballot(0, 0), x.Cmd, 7, ref(2, 1))))
	want := taken(x.Ref, ballot(0, 0), x.Cmd, 7, ref(2, 1))
	asks(t, "not straight", out, saves(want), mails(api.MailTake, 0, want, 1, 2, 3, 4, 5, 6)...)
}

// P8.4: of a try in that phase with that ballot each member counts once.
func TestAnswersThatDontCount(t *testing.T) {
	r, x := tried(t, five())
	y := seen(x.Ref, ballot(0, 0), x.Cmd, 7, ref(2, 1))
	tells(t, "an answer", r, mail(api.MailPreOk, 1, 0, y))
	elsewhere := y
	elsewhere.Ref.Index = 2
	wrong := []api.Mail{
		mail(api.MailPreOk, 1, 0, y),
		mail(api.MailPreOk, 1, 0, x),
		mail(api.MailPreOk, 0, 0, x),
		mail(api.MailPreOk, 2, 0, seen(x.Ref, ballot(0, 1), x.Cmd, 9)),
		mail(api.MailPreOk, 2, 0, seen(x.Ref, ballot(1, 0), x.Cmd, 9)),
		mail(api.MailPreOk, 2, 0, taken(x.Ref, ballot(0, 0), x.Cmd, 9)),
		mail(api.MailPreOk, 2, 0, done(x.Ref, ballot(0, 0), x.Cmd, 9)),
		mail(api.MailPreOk, 2, 0, bare(x.Ref, ballot(0, 0))),
		mail(api.MailPreOk, 2, 0, elsewhere),
		mail(api.MailTakeOk, 2, 0, taken(x.Ref, ballot(0, 0), x.Cmd, 9)),
		mail(api.MailTell, 2, 0, x),
		mail(api.MailTell, 3, 0, taken(x.Ref, ballot(0, 0), x.Cmd, 9)),
	}
	for _, m := range wrong {
		tells(t, "it doesn't count", r, m)
	}
	want := taken(x.Ref, ballot(0, 0), x.Cmd, 7, ref(2, 1))
	asks(t, "another one", r.Hear(mail(api.MailPreOk, 4, 0, x)), saves(want), mails(api.MailTake, 0, want, 1, 2, 3, 4)...)
	tells(t, "a take", r, mail(api.MailTakeOk, 2, 0, want))
	wrong = []api.Mail{
		mail(api.MailTakeOk, 2, 0, want),
		mail(api.MailTakeOk, 0, 0, want),
		mail(api.MailTakeOk, 3, 0, taken(x.Ref, ballot(0, 2), x.Cmd, 9)),
		mail(api.MailTakeOk, 3, 0, seen(x.Ref, ballot(0, 0), x.Cmd, 9)),
		mail(api.MailPreOk, 1, 0, x),
		mail(api.MailPreOk, 3, 0, x),
		mail(api.MailTell, 3, 0, want),
	}
	for _, m := range wrong {
		tells(t, "it doesn't count", r, m)
	}
	asks(t, "another one", r.Hear(mail(api.MailTakeOk, 1, 0, want)), saves(as(api.Done, want)), mails(api.MailCommit, 0, as(api.Done, want), 1, 2, 3, 4)...)
}

// P8.4: a greater ballot ends a try, and so does what is decided; the same one, a lower one, and another Ref's don't.
func TestTriesEnd(t *testing.T) {
	c := write(3, 1, 0)
	x := ref(0, 1)
	for _, l := range []struct {
		what  string
		tries int
		m     api.Mail
	}{
		{"pre", 0, mail(api.MailPre, 1, 0, seen(x, ballot(1, 1), c, 1))},
		{"take", 0, mail(api.MailTake, 1, 0, taken(x, ballot(1, 1), c, 1))},
		{"take of a greater Node", 0, mail(api.MailTake, 1, 0, taken(x, ballot(0, 1), c, 1))},
		{"ask", 0, mail(api.MailAsk, 1, 0, bare(x, ballot(0, 1)))},
		{"commit", 0, mail(api.MailCommit, 1, 0, done(x, ballot(0, 0), c, 1))},
		{"no", 0, mail(api.MailNo, 1, 0, bare(x, ballot(0, 1)))},
		{"no of a greater N", 0, mail(api.MailNo, 2, 0, bare(x, ballot(1, 0)))},
		{"no of the ballot", 1, mail(api.MailNo, 1, 0, bare(x, ballot(0, 0)))},
		{"ask of the ballot", 1, mail(api.MailAsk, 1, 0, bare(x, ballot(0, 0)))},
		{"pre of the ballot", 1, mail(api.MailPre, 1, 0, seen(x, ballot(0, 0), c, 1))},
		{"ask of another one", 1, mail(api.MailAsk, 1, 0, bare(ref(0, 2), ballot(1, 1)))},
		{"no of another one", 1, mail(api.MailNo, 1, 0, bare(ref(0, 2), ballot(1, 1)))},
		{"commit of another one", 1, mail(api.MailCommit, 1, 0, done(ref(0, 2), ballot(0, 0), c, 1))},
		{"next", 1, mail(api.MailNext, 1, 0, bare(x, ballot(1, 1)))},
	} {
		r, x := tried(t, three())
		r.Hear(l.m)
		if r.Tries() != l.tries {
			t.Errorf("%s: %d tries, not %d", l.what, r.Tries(), l.tries)
		}
		out := r.Hear(mail(api.MailPreOk, 2, 0, x))
		if (len(out.Mails) > 0) != (l.tries > 0) {
			t.Errorf("%s: an answer behind it: %v", l.what, out)
		}
	}
}

// P8.4: a MailNo of a lower ballot doesn't end a mending try, one above it does.
func TestNoToMending(t *testing.T) {
	r := begins(t, 1, three(), bare(ref(1, 1), ballot(3, 2)))
	quiet(t, "it waits", r, 7)
	r.Tick(nil)
	for _, b := range []api.Ballot{ballot(3, 2), ballot(4, 0), ballot(4, 1)} {
		tells(t, "no", r, mail(api.MailNo, 2, 1, bare(ref(1, 1), b)))
		has(t, "no", r, 1, bare(ref(1, 1), ballot(4, 1)))
	}
	tells(t, "no", r, mail(api.MailNo, 2, 1, bare(ref(1, 1), ballot(4, 2))))
	has(t, "no", r, 0, bare(ref(1, 1), ballot(4, 1)))
}

// Example 1: three members, one proposes; one answers with the same order: decided.
func TestExample(t *testing.T) {
	a, b, c := begins(t, 0, three()), begins(t, 1, three()), begins(t, 2, three())
	_, out := proposes(t, a, freeze())
	want := same(seen(ref(0, 1), ballot(0, 0), freeze(), 1))
	asks(t, "it proposes", out, saves(want), mails(api.MailPre, 0, want, 1, 2)...)
	out = b.Hear(out.Mails[0])
	asks(t, "it answers", out, saves(want), mail(api.MailPreOk, 1, 0, want))
	out = a.Hear(out.Mails[0])
	asks(t, "it is decided", out, saves(as(api.Done, want)), mails(api.MailCommit, 0, as(api.Done, want), 1, 2)...)
	for i, r := range []*accord.Replica{b, c} {
		asks(t, "it is known", r.Hear(out.Mails[i]), saves(as(api.Done, want)))
		has(t, "it is known", r, 0, as(api.Done, want))
	}
}
