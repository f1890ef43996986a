package accord_test

import (
	"slices"
	"testing"

	"lamella/accord"
	"lamella/api"
)

// P8.3: an instance with the table's Next and Order is kept, and goes to all others.
func TestPropose(t *testing.T) {
	old := done(ref(1, 4), ballot(0, 1), write(0, 1, 0), 7)
	far := seen(ref(6, 2), ballot(2, 6), write(1, 1, 0), 9)
	r := begins(t, 3, []int{1, 3, 6}, old, far, bare(ref(3, 8), ballot(1, 1)))
	x, out := proposes(t, r, write(2, 1, 0))
	want := same(seen(ref(3, 9), ballot(0, 3), write(2, 1, 0), 10, ref(1, 4), ref(6, 2)))
	if x != ref(3, 9) {
		t.Errorf("it is %v", x)
	}
	asks(t, "the first one", out, saves(want), mails(api.MailPre, 3, want, 1, 6)...)
	_, out = proposes(t, r, read(3, 0, 1))
	next := same(seen(ref(3, 10), ballot(0, 3), read(3, 0, 1), 11, ref(1, 4), ref(3, 9), ref(6, 2)))
	asks(t, "the next one", out, saves(next), mails(api.MailPre, 3, next, 1, 6)...)
	_, out = proposes(t, r, api.Cmd{})
	last := same(seen(ref(3, 11), ballot(0, 3), api.Cmd{}, 1))
	asks(t, "what does nothing", out, saves(last), mails(api.MailPre, 3, last, 1, 6)...)
	has(t, "all", r, 3, old, bare(ref(3, 8), ballot(1, 1)), want, next, last, far)
}

// P8.3, P8.5: who is alone decides at once, and keeps both.
func TestProposeAlone(t *testing.T) {
	r := begins(t, 4, []int{4})
	x, out := proposes(t, r, freeze())
	a := same(seen(ref(4, 1), ballot(0, 4), freeze(), 1))
	asks(t, "alone", out, saves(a, as(api.Done, a)))
	has(t, "alone", r, 0, as(api.Done, a))
	if x != a.Ref {
		t.Errorf("it is %v", x)
	}
}

// proposesNothing checks a Propose with an error.
func proposesNothing(t *testing.T, what string, r *accord.Replica, c api.Cmd, want api.Errno) {
	t.Helper()
	known, tries := r.Insts(), r.Tries()
	x, out, e := r.Propose(c)
	if x != (api.Ref{}) || e != want {
		t.Errorf("%s: %v, error %d, not %d", what, x, e, want)
	}
	asksNothing(t, what, out)
	has(t, what, r, tries, known...)
}

// P8.3: ErrArg, if the command may not be.
func TestProposeOfWhatMayNotBe(t *testing.T) {
	r := begins(t, 0, three())
	for _, c := range []api.Cmd{{Op: 6}, {Op: -1}, {Seq: 1}, {Op: api.OpFreeze, To: 1}, read(4, 0, 1), read(0, 0, 17), read(0, 1, 1), write(0, 0, 0), write(0, 1, 256)} {
		proposesNothing(t, "a command", r, c, api.ErrArg)
	}
	has(t, "nothing", r, 0)
}

// P8.3: ErrBig, by the table, the Index, or the Seq; ErrArg comes first.
func TestProposeOfTooMuch(t *testing.T) {
	r := begins(t, 0, three(), full()...)
	proposesNothing(t, "a full table", r, freeze(), api.ErrBig)
	proposesNothing(t, "a full table", r, api.Cmd{}, api.ErrBig)
	proposesNothing(t, "a full table, a bad command", r, api.Cmd{Op: 6}, api.ErrArg)
	r = begins(t, 0, three(), full()[1:]...)
	proposes(t, r, freeze())
	proposesNothing(t, "a table that is full now", r, freeze(), api.ErrBig)

	r = begins(t, 0, three(), bare(ref(0, 1<<30-1), ballot(1, 1)))
	if x, _ := proposes(t, r, freeze()); x != ref(0, 1<<30) {
		t.Errorf("the last one is %v", x)
	}
	proposesNothing(t, "the greatest Index", r, freeze(), api.ErrBig)
	r = begins(t, 0, three(), bare(ref(1, 1<<30), ballot(1, 1)))
	proposes(t, r, freeze())

	r = begins(t, 0, three(), seen(ref(1, 1), ballot(0, 1), write(0, 1, 0), 1<<40-1))
	proposes(t, r, write(1, 1, 0))
	proposesNothing(t, "the greatest Seq", r, write(2, 1, 0), api.ErrBig)
	proposes(t, r, write(2, 1, 1))
}

// P8.2: what a full table doesn't take is neither kept nor answered; what it has goes on.
func TestFullTable(t *testing.T) {
	r := begins(t, 0, three(), full()...)
	for _, m := range []api.Mail{
		mail(api.MailPre, 1, 0, seen(ref(1, 1), ballot(0, 1), freeze(), 1)),
		mail(api.MailTake, 1, 0, taken(ref(1, 1), ballot(0, 1), freeze(), 1)),
		mail(api.MailCommit, 1, 0, done(ref(1, 1), ballot(0, 1), freeze(), 1)),
		mail(api.MailAsk, 1, 0, bare(ref(1, 1), ballot(1, 1))),
	} {
		asksNothing(t, "a full table", r.Hear(m))
	}
	has(t, "a full table", r, 0, full()...)
	quiet(t, "a full table", r, 50, ref(1, 1))
	has(t, "a full table", r, 0, full()...)

	l := full()
	l[7] = seen(l[7].Ref, ballot(0, 2), freeze(), 1)
	r = begins(t, 0, three(), l...)
	x := taken(l[7].Ref, ballot(1, 1), freeze(), 2)
	asks(t, "what it has", r.Hear(mail(api.MailTake, 1, 0, x)), saves(x), mail(api.MailTakeOk, 0, 1, x))
	l[7] = x
	has(t, "what it has", r, 0, l...)
}

// P8.2: what may not be, by its Seq or its Deps, is neither kept nor answered; a try of self's own with a lower ballot goes on.
func TestWhatMayNotBe(t *testing.T) {
	last := done(ref(2, 1), ballot(0, 2), write(0, 1, 0), 1<<40)
	r := begins(t, 0, three(), last)
	asksNothing(t, "a Seq", r.Hear(mail(api.MailPre, 1, 0, seen(ref(1, 1), ballot(0, 1), write(1, 1, 0), 1))))
	has(t, "a Seq", r, 0, last)

	r = begins(t, 0, three(), last)
	proposes(t, r, read(1, 1, 2))
	x := same(seen(ref(0, 1), ballot(0, 0), read(1, 1, 2), 1))
	asksNothing(t, "a Seq", r.Hear(mail(api.MailPre, 1, 0, seen(ref(0, 1), ballot(1, 1), write(1, 1, 0), 1))))
	has(t, "a try", r, 1, x, last)

	other := done(ref(2, 1), ballot(0, 2), freeze(), 1)
	many := seen(ref(1, 1), ballot(0, 1), freeze(), 9, rows(0, 1, api.MaxList)...)
	r = begins(t, 0, three(), other)
	asksNothing(t, "Deps", r.Hear(mail(api.MailPre, 1, 0, many)))
	has(t, "Deps", r, 0, other)
	many.Deps = many.Deps[1:]
	want := many
	want.Deps = append(slices.Clone(many.Deps), ref(2, 1))
	asks(t, "as many Deps as may be", r.Hear(mail(api.MailPre, 1, 0, many)), saves(want), mail(api.MailPreOk, 0, 1, want))
}

// P8.2: a try that needs what may not be ends.
func TestTriesThatNeedWhatMayNotBe(t *testing.T) {
	r := begins(t, 0, five())
	x, _ := proposes(t, r, freeze())
	answer := func(deps []api.Ref) api.Inst { return seen(x, ballot(0, 0), freeze(), 1, deps...) }
	tells(t, "many Deps", r, mail(api.MailPreOk, 1, 0, answer(rows(1, 1, api.MaxList))))
	asksNothing(t, "one more", r.Hear(mail(api.MailPreOk, 2, 0, answer(rows(2, 1, 1)))))
	has(t, "one more", r, 0, same(seen(x, ballot(0, 0), freeze(), 1)))

	r = begins(t, 0, five())
	proposes(t, r, freeze())
	tells(t, "many Deps", r, mail(api.MailPreOk, 1, 0, answer(rows(1, 1, api.MaxList))))
	want := taken(x, ballot(0, 0), freeze(), 1, rows(1, 1, api.MaxList)...)
	asks(t, "as many as may be", r.Hear(mail(api.MailPreOk, 2, 0, answer(rows(1, 5, 1)))), saves(want), mails(api.MailTake, 0, want, 1, 2, 3, 4)...)

	last := done(ref(2, 9), ballot(0, 2), write(0, 1, 0), 1<<40)
	r = begins(t, 0, three(), last, bare(ref(0, 1), ballot(0, 0)))
	quiet(t, "it waits", r, 7)
	asked := bare(ref(0, 1), ballot(1, 0))
	asks(t, "it asks", withoutNext(r.Tick(nil)), saves(asked), mails(api.MailAsk, 0, asked, 1, 2)...)
	asksNothing(t, "a Seq", r.Hear(mail(api.MailTell, 1, 0, above(seen(ref(0, 1), ballot(0, 0), write(1, 1, 0), 1), ballot(1, 0)))))
	has(t, "a Seq", r, 0, asked, last)
}
