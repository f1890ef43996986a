package accord_test

import (
	"testing"

	"lamella/accord"
	"lamella/api"
)

// mending is a replica that knows l and has begun to ask for the Ref.
func mending(t *testing.T, self int, members []int, r api.Ref, l ...api.Inst) *accord.Replica {
	t.Helper()
	a := begins(t, self, members, l...)
	for range 100 {
		a.Tick(refs(r))
		if a.Tries() > 0 {
			return a
		}
	}
	t.Fatal("it doesn't ask")
	return nil
}

// P8.6: the ballot is above all that self knows of, by what it knows.
func TestAskingBallots(t *testing.T) {
	c := write(0, 1, 0)
	for _, l := range []struct {
		what  string
		known []api.Inst
		n     int
	}{
		{"nothing", nil, 1},
		{"a ballot", saves(bare(ref(1, 1), ballot(7, 2))), 8},
		{"its own ballot", saves(bare(ref(1, 1), ballot(7, 1))), 8},
		{"seen", saves(same(seen(ref(1, 1), ballot(0, 1), c, 3, ref(2, 2)))), 1},
		{"taken, and a greater ballot", saves(above(taken(ref(1, 1), ballot(2, 0), c, 3), ballot(1<<30-1, 0))), 1 << 30},
	} {
		r := begins(t, 1, three(), l.known...)
		quiet(t, l.what, r, 7, ref(1, 1))
		x := bare(ref(1, 1), ballot(l.n, 1))
		for _, y := range l.known {
			x = above(y, ballot(l.n, 1))
		}
		asked := bare(ref(1, 1), ballot(l.n, 1))
		asks(t, l.what, withoutNext(r.Tick(refs(ref(1, 1)))), saves(x), mails(api.MailAsk, 1, asked, 0, 2)...)
		has(t, l.what, r, 1, x)
	}
}

// P8.6, P8.2: above the greatest ballot there is none.
func TestNoBallotIsLeft(t *testing.T) {
	x := above(seen(ref(1, 1), ballot(0, 1), freeze(), 3), ballot(1<<30, 0))
	r := begins(t, 1, three(), x)
	quiet(t, "none is left", r, 50)
	has(t, "none is left", r, 0, x)
}

// P8.4, P8.6: and by MailNo, the greatest one counts, in whatever order they come, with a try or without; of another Ref none does.
func TestAskingBallotsBehindNo(t *testing.T) {
	no := func(r api.Ref, n, node int) api.Mail { return mail(api.MailNo, 2, 1, bare(r, ballot(n, node))) }
	r := mending(t, 1, three(), ref(1, 1))
	tells(t, "no", r, no(ref(1, 2), 90, 0))
	tells(t, "no", r, no(ref(1, 1), 1, 2))
	has(t, "no", r, 0, bare(ref(1, 1), ballot(1, 1)))
	tells(t, "no", r, no(ref(1, 1), 9, 0))
	tells(t, "no", r, no(ref(1, 1), 5, 2))
	quiet(t, "no", r, 7)
	x := bare(ref(1, 1), ballot(10, 1))
	asks(t, "above it", withoutNext(r.Tick(nil)), saves(x), mails(api.MailAsk, 1, x, 0, 2)...)
	tells(t, "no", r, no(ref(1, 1), 12, 2))
	r.Hear(mail(api.MailAsk, 0, 1, bare(ref(1, 1), ballot(20, 0))))
	quiet(t, "an ask above it", r, 7)
	x = bare(ref(1, 1), ballot(21, 1))
	asks(t, "above the ask", withoutNext(r.Tick(nil)), saves(x), mails(api.MailAsk, 1, x, 0, 2)...)
}

// tale is a member and what it tells.
type tale struct {
	from int
	x    api.Inst
}

// P8.6: what comes of the answers of a majority, of five members, of which self is 0 and asks with {3, 0} for {1, 1}.
func TestMending(t *testing.T) {
	c := write(1, 1, 0)
	r, lead, b := ref(1, 1), ballot(0, 1), ballot(3, 0)
	beside := done(ref(2, 1), ballot(0, 2), write(2, 1, 0), 5)
	start := same(seen(r, lead, c, 2, ref(4, 4)))
	known := bare(r, ballot(2, 4))
	knows := func(x api.Inst) api.Inst { return above(x, ballot(2, 4)) }
	take := func(c api.Cmd, seq int, deps ...api.Ref) api.Inst { return taken(r, b, c, seq, deps...) }
	for _, l := range []struct {
		what string
		own  api.Inst
		a, b tale
		want api.Inst
	}{
		{"nobody knows it", known, tale{1, bare(r, b)}, tale{2, bare(r, b)}, take(api.Cmd{}, 0)},
		{"one has taken it", known, tale{1, taken(r, lead, c, 2, ref(4, 4))}, tale{2, bare(r, b)}, take(c, 2, ref(4, 4))},
		{"self has taken it", knows(taken(r, lead, c, 7)), tale{1, start}, tale{2, start}, take(c, 7)},
		{"the greatest vote", knows(taken(r, ballot(1, 3), c, 7)), tale{1, taken(r, ballot(1, 4), c, 8, ref(0, 2))}, tale{2, taken(r, lead, c, 9)}, take(c, 8, ref(0, 2))},
		{"the greatest vote comes last", known, tale{3, taken(r, ballot(1, 4), c, 8)}, tale{4, taken(r, ballot(2, 0), c, 9)}, take(c, 9)},
		{"the greatest vote comes first", known, tale{3, taken(r, ballot(2, 3), c, 8)}, tale{4, taken(r, ballot(2, 0), c, 9)}, take(c, 8)},
		{"taken nothing", known, tale{3, taken(r, ballot(1, 4), api.Cmd{}, 0)}, tale{4, start}, take(api.Cmd{}, 0)},
		{"taken, against what was seen later", known, tale{3, taken(r, lead, c, 4)}, tale{4, seen(r, ballot(2, 2), c, 9)}, take(c, 4)},
		{"two are the same", known, tale{2, start}, tale{3, start}, take(c, 2, ref(4, 4))},
		{"self is one of two", knows(start), tale{2, start}, tale{3, bare(r, b)}, take(c, 2, ref(4, 4))},
		{"two, and another one", knows(seen(r, lead, c, 9)), tale{2, start}, tale{3, start}, take(c, 2, ref(4, 4))},
		{"one is the same", known, tale{2, start}, tale{3, bare(r, b)}, seen(r, b, c, 6, ref(2, 1), ref(4, 4))},
		{"the Lead doesn't count", known, tale{1, start}, tale{3, start}, seen(r, b, c, 6, ref(2, 1), ref(4, 4))},
		{"the Lead alone", known, tale{1, start}, tale{3, bare(r, b)}, seen(r, b, c, 6, ref(2, 1), ref(4, 4))},
		{"not the same", known, tale{2, start}, tale{3, seen(r, lead, c, 8, ref(3, 3))}, seen(r, b, c, 8, ref(2, 1), ref(3, 3), ref(4, 4))},
		{"another vote", known, tale{2, start}, tale{3, same(seen(r, ballot(1, 1), c, 8))}, seen(r, b, c, 8, ref(2, 1), ref(4, 4))},
		{"another Node's vote", known, tale{2, start}, tale{3, same(seen(r, ballot(0, 0), c, 3))}, seen(r, b, c, 6, ref(2, 1), ref(4, 4))},
		{"self has seen it", knows(seen(r, lead, c, 9, ref(3, 3))), tale{2, bare(r, b)}, tale{3, bare(r, b)}, seen(r, b, c, 9, ref(2, 1), ref(3, 3))},
	} {
		a := mending(t, 0, five(), r, beside, l.own)
		has(t, l.what, a, 1, above(l.own, b), beside)
		tells(t, l.what, a, mail(api.MailTell, l.a.from, 0, above(l.a.x, b)))
		tells(t, l.what, a, mail(api.MailTell, l.a.from, 0, above(l.b.x, b)))
		tells(t, l.what, a, mail(api.MailTell, l.b.from, 0, above(l.b.x, ballot(3, 1))))
		out := a.Hear(mail(api.MailTell, l.b.from, 0, above(l.b.x, b)))
		kind := api.MailTake
		if l.want.Status == api.Seen {
			kind = api.MailPre
		}
		asks(t, l.what, out, saves(l.want), mails(kind, 0, l.want, 1, 2, 3, 4)...)
		has(t, l.what, a, 1, l.want, beside)
		tells(t, "late", a, mail(api.MailTell, 4, 0, above(start, b)))
	}
}

// P8.6: of three members one that is the same is enough, if it isn't the Lead; of seven three are needed.
func TestMendingByNumbers(t *testing.T) {
	c := write(1, 1, 0)
	r, lead := ref(1, 1), ballot(0, 1)
	start := same(seen(r, lead, c, 2))
	a := mending(t, 0, three(), r)
	want := taken(r, ballot(1, 0), c, 2)
	asks(t, "one of three", a.Hear(mail(api.MailTell, 2, 0, above(start, ballot(1, 0)))), saves(want), mails(api.MailTake, 0, want, 1, 2)...)
	a = mending(t, 0, three(), r, start)
	asks(t, "self is one of three", a.Hear(mail(api.MailTell, 1, 0, above(start, ballot(1, 0)))), saves(want), mails(api.MailTake, 0, want, 1, 2)...)
	a = mending(t, 0, three(), r)
	anew := seen(r, ballot(1, 0), c, 2)
	asks(t, "the Lead of three", a.Hear(mail(api.MailTell, 1, 0, above(start, ballot(1, 0)))), saves(anew), mails(api.MailPre, 0, anew, 1, 2)...)
	a = mending(t, 1, three(), r, start)
	want = seen(r, ballot(1, 1), c, 2)
	asks(t, "self is the Lead of three", a.Hear(mail(api.MailTell, 2, 1, bare(r, ballot(1, 1)))), saves(want), mails(api.MailPre, 1, want, 0, 2)...)

	for n := range 4 {
		a = mending(t, 0, seven(), r)
		for from := 2; from <= 4; from++ {
			x := above(seen(r, lead, c, 2), ballot(1, 0))
			x.Same = from-2 < n
			out := a.Hear(mail(api.MailTell, from, 0, x))
			if from < 4 {
				asksNothing(t, "three of seven", out)
			} else if len(out.Mails) != 6 || (out.Mails[0].Kind == api.MailTake) != (n == 3) {
				t.Errorf("%d of seven are the same: %v", n, out)
			}
		}
	}
}

// P8.6, P8.5: a first phase with a greater ballot isn't straight, and needs a majority; then it goes as any other does.
func TestFirstPhaseAgain(t *testing.T) {
	c := write(1, 1, 0)
	r, b := ref(1, 1), ballot(1, 0)
	a := mending(t, 0, five(), r)
	tells(t, "a tell", a, mail(api.MailTell, 1, 0, above(same(seen(r, ballot(0, 1), c, 2)), b)))
	x := seen(r, b, c, 2)
	asks(t, "a majority", a.Hear(mail(api.MailTell, 2, 0, bare(r, b))), saves(x), mails(api.MailPre, 0, x, 1, 2, 3, 4)...)
	tells(t, "a lower ballot", a, mail(api.MailPreOk, 3, 0, seen(r, ballot(0, 1), c, 8)))
	tells(t, "an answer", a, mail(api.MailPreOk, 1, 0, x))
	y := seen(r, b, c, 4, ref(3, 3))
	want := taken(r, b, c, 4, ref(3, 3))
	asks(t, "a majority", a.Hear(mail(api.MailPreOk, 4, 0, y)), saves(want), mails(api.MailTake, 0, want, 1, 2, 3, 4)...)
	tells(t, "an answer", a, mail(api.MailTakeOk, 1, 0, want))
	end := as(api.Done, want)
	asks(t, "a majority", a.Hear(mail(api.MailTakeOk, 2, 0, want)), saves(end), mails(api.MailCommit, 0, end, 1, 2, 3, 4)...)

	a = mending(t, 0, five(), r)
	a.Hear(mail(api.MailTell, 1, 0, above(seen(r, ballot(0, 1), c, 2), b)))
	a.Hear(mail(api.MailTell, 2, 0, bare(r, b)))
	tells(t, "an answer", a, mail(api.MailPreOk, 1, 0, x))
	want = taken(r, b, c, 2)
	asks(t, "not straight, though all say the same", a.Hear(mail(api.MailPreOk, 2, 0, x)), saves(want), mails(api.MailTake, 0, want, 1, 2, 3, 4)...)
}

// P8.6: who is alone mends at once, and keeps each step.
func TestMendingAlone(t *testing.T) {
	c := write(1, 1, 0)
	r, b := ref(4, 2), ballot(1, 4)
	beside := done(ref(4, 1), ballot(0, 4), write(2, 1, 0), 5)
	ended := func(x api.Inst) []api.Inst {
		return saves(as(api.Taken, x), as(api.Done, x))
	}
	for _, l := range []struct {
		what  string
		known api.Inst
		want  []api.Inst
	}{
		{"nothing", bare(r, ballot(0, 0)), ended(taken(r, b, api.Cmd{}, 0))},
		{"taken", taken(r, ballot(0, 4), c, 3), ended(taken(r, b, c, 3))},
		{"seen", seen(r, ballot(0, 4), c, 3), append(saves(seen(r, b, c, 6, ref(4, 1))), ended(taken(r, b, c, 6, ref(4, 1)))...)},
		{"the same", same(seen(r, ballot(0, 4), c, 3)), append(saves(seen(r, b, c, 6, ref(4, 1))), ended(taken(r, b, c, 6, ref(4, 1)))...)},
	} {
		a := begins(t, 4, []int{4}, beside, l.known)
		quiet(t, l.what, a, 7)
		asks(t, l.what, a.Tick(nil), append(saves(above(l.known, b)), l.want...))
		has(t, l.what, a, 0, beside, l.want[len(l.want)-1])
		quiet(t, l.what, a, 50)
	}
}
