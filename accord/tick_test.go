package accord_test

import (
	"math"
	"slices"
	"testing"

	"lamella/accord"
	"lamella/api"
)

// ticks checks a tick, but its mails of each eighth one.
func ticks(t *testing.T, what string, r *accord.Replica, kept []api.Inst, sent ...api.Mail) {
	t.Helper()
	asks(t, what, withoutNext(r.Tick(nil)), kept, sent...)
}

// P8.7: with four ticks, eight, and so on, a try sends its mail again to those that haven't answered, in each of its phases.
func TestMailsAgain(t *testing.T) {
	r, x := tried(t, five())
	for range 3 {
		quiet(t, "first phase", r, 3)
		ticks(t, "first phase", r, nil, mails(api.MailPre, 0, x, 1, 2, 3, 4)...)
	}
	y := seen(x.Ref, ballot(0, 0), x.Cmd, 7, ref(2, 1))
	tells(t, "an answer", r, mail(api.MailPreOk, 3, 0, y))
	quiet(t, "first phase, not straight", r, 3)
	ticks(t, "first phase, not straight", r, nil, mails(api.MailPre, 0, x, 1, 2, 4)...)
	quiet(t, "first phase, not straight", r, 2)
	z := taken(x.Ref, ballot(0, 0), x.Cmd, 7, ref(2, 1))
	r.Hear(mail(api.MailPreOk, 1, 0, x))
	quiet(t, "second phase, as old as the try", r, 1)
	ticks(t, "second phase, as old as the try", r, nil, mails(api.MailTake, 0, z, 1, 2, 3, 4)...)
	tells(t, "an answer", r, mail(api.MailTakeOk, 1, 0, z))
	quiet(t, "second phase", r, 3)
	ticks(t, "second phase", r, nil, mails(api.MailTake, 0, z, 2, 3, 4)...)
	r.Hear(mail(api.MailTakeOk, 4, 0, z))
	quiet(t, "it is done", r, 50)
}

// P8.7: an asking phase does so, too, with the mail that it sent.
func TestAsksAgain(t *testing.T) {
	known := same(seen(ref(1, 1), ballot(0, 1), freeze(), 3))
	r := mending(t, 0, five(), ref(1, 1), known)
	asked := bare(ref(1, 1), ballot(1, 0))
	quiet(t, "asking", r, 3)
	ticks(t, "asking", r, nil, mails(api.MailAsk, 0, asked, 1, 2, 3, 4)...)
	tells(t, "a tell", r, mail(api.MailTell, 2, 0, bare(ref(1, 1), ballot(1, 0))))
	for range 10 {
		quiet(t, "asking", r, 3)
		ticks(t, "asking", r, nil, mails(api.MailAsk, 0, asked, 1, 3, 4)...)
	}
	has(t, "asking", r, 1, above(known, ballot(1, 0)))
}

// P8.7: a straight one that has a majority doesn't wait for a fast quorum.
func TestStraightOnesGoOn(t *testing.T) {
	for _, late := range []int{0, 3, 4, 6} {
		r, x := tried(t, five())
		for i := range late {
			if out := r.Tick(nil); (len(out.Mails) > 0) != (i == 3) {
				t.Fatalf("tick %d: %v", i+1, out)
			}
		}
		tells(t, "an answer", r, mail(api.MailPreOk, 2, 0, x))
		tells(t, "an answer", r, mail(api.MailPreOk, 4, 0, x))
		quiet(t, "it waits", r, 3-late%4)
		want := taken(x.Ref, ballot(0, 0), x.Cmd, 6, ref(2, 1))
		ticks(t, "it goes on", r, saves(want), mails(api.MailTake, 0, want, 1, 2, 3, 4)...)
		tells(t, "an answer to the first phase", r, mail(api.MailPreOk, 3, 0, x))
		tells(t, "a take", r, mail(api.MailTakeOk, 3, 0, want))
		quiet(t, "second phase", r, 3)
		ticks(t, "second phase", r, nil, mails(api.MailTake, 0, want, 1, 2, 4)...)
	}
	r, x := tried(t, five())
	tells(t, "an answer", r, mail(api.MailPreOk, 2, 0, x))
	quiet(t, "no majority", r, 3)
	ticks(t, "no majority", r, nil, mails(api.MailPre, 0, x, 1, 3, 4)...)
	tells(t, "an answer", r, mail(api.MailPreOk, 1, 0, x))
	out := r.Hear(mail(api.MailPreOk, 3, 0, x))
	asks(t, "still straight", out, saves(as(api.Done, x)), mails(api.MailCommit, 0, as(api.Done, x), 1, 2, 3, 4)...)
}

// waits checks that a replica asks for the Ref with so many ticks, and not ahead.
func waits(t *testing.T, what string, r *accord.Replica, x api.Ref, n int, wants ...api.Ref) {
	t.Helper()
	quiet(t, what, r, n-1, wants...)
	out := withoutNext(r.Tick(wants))
	if len(out.Saves) != 1 || out.Saves[0].Ref != x || len(out.Mails) == 0 || out.Mails[0].Kind != api.MailAsk {
		t.Errorf("%s: at tick %d: %v", what, n, out)
	}
}

// P8.7: with 8 + 4k ticks, by the places behind the Lead, round about, of what is known and isn't done, and of what is wanted.
func TestWaits(t *testing.T) {
	for _, members := range [][]int{three(), {1, 3, 6}, {0, 2, 3, 5, 6}, seven()} {
		for i, self := range members {
			for j, lead := range members {
				k := i - j
				if k < 0 {
					k += len(members)
				}
				x := ref(lead, 1)
				waits(t, "a wish", begins(t, self, members), x, 8+4*k, x)
				for _, known := range []api.Inst{bare(x, ballot(0, 0)), seen(x, ballot(0, lead), freeze(), 1), taken(x, ballot(0, lead), freeze(), 1)} {
					waits(t, "what is known", begins(t, self, members, known), x, 8+4*k)
					waits(t, "what is known, and a wish", begins(t, self, members, known), x, 8+4*k, x)
				}
				quiet(t, "what is done", begins(t, self, members, done(x, ballot(0, lead), freeze(), 1)), 40, x)
			}
		}
	}
}

// P8.7: wishes that may not be Refs of members are none; one that comes twice counts once; a wish that isn't told doesn't grow older.
func TestWishes(t *testing.T) {
	r := begins(t, 1, []int{1, 3, 6})
	quiet(t, "no Refs", r, 50, ref(0, 1), ref(2, 1), ref(7, 1), ref(-1, 1), ref(1, 0), ref(1, -1), ref(1, 1<<30+1), ref(math.MinInt, math.MaxInt), ref(1, math.MinInt))
	has(t, "no Refs", r, 0)
	waits(t, "twice", begins(t, 1, three()), ref(1, 9), 8, ref(1, 9), ref(1, 9), ref(7, 7), ref(1, 9))
	waits(t, "the greatest", begins(t, 1, three()), ref(1, 1<<30), 8, ref(1, 1<<30))
	r = begins(t, 1, three())
	quiet(t, "told", r, 5, ref(1, 1))
	quiet(t, "not told", r, 20)
	waits(t, "told again", r, ref(1, 1), 3, ref(1, 1))
	l := refs(ref(2, 2), ref(1, 1), ref(2, 2), ref(9, 9))
	was := slices.Clone(l)
	begins(t, 1, three()).Tick(l)
	if !slices.Equal(l, was) {
		t.Errorf("the wishes are %v now", l)
	}
}

// P8.7: a MailPre, MailTake or MailAsk that is neither refused nor late makes its Ref as old as 0; others don't.
func TestWaitsBehindMails(t *testing.T) {
	c, x := freeze(), ref(1, 1)
	known := seen(x, ballot(2, 0), c, 1)
	for _, l := range []struct {
		what string
		left int
		m    api.Mail
	}{
		{"pre", 8, mail(api.MailPre, 2, 1, seen(x, ballot(3, 2), c, 1))},
		{"pre once more", 8, mail(api.MailPre, 2, 1, seen(x, ballot(2, 0), c, 1))},
		{"take", 8, mail(api.MailTake, 0, 1, taken(x, ballot(2, 0), c, 1))},
		{"ask", 8, mail(api.MailAsk, 2, 1, bare(x, ballot(3, 2)))},
		{"ask once more", 8, mail(api.MailAsk, 0, 1, bare(x, ballot(2, 0)))},
		{"pre that is refused", 3, mail(api.MailPre, 2, 1, seen(x, ballot(1, 2), c, 1))},
		{"take that is refused", 3, mail(api.MailTake, 2, 1, taken(x, ballot(1, 2), c, 1))},
		{"ask that is refused", 3, mail(api.MailAsk, 2, 1, bare(x, ballot(1, 2)))},
		{"pre of another shard", 3, api.Mail{Kind: api.MailPre, From: 2, To: 1, Shard: 9, Inst: seen(x, ballot(3, 2), c, 1)}},
		{"ask for another one", 3, mail(api.MailAsk, 2, 1, bare(ref(2, 1), ballot(3, 2)))},
		{"preok", 3, mail(api.MailPreOk, 2, 1, seen(x, ballot(2, 0), c, 1))},
		{"tell", 3, mail(api.MailTell, 2, 1, bare(x, ballot(2, 0)))},
		{"no", 3, mail(api.MailNo, 2, 1, bare(x, ballot(2, 0)))},
		{"next", 3, mail(api.MailNext, 2, 1, bare(x, ballot(2, 0)))},
	} {
		r := begins(t, 1, three(), known)
		quiet(t, l.what, r, 5)
		r.Hear(l.m)
		waits(t, l.what, r, x, l.left)
	}
	r := begins(t, 1, three())
	quiet(t, "a wish", r, 5, x)
	r.Hear(mail(api.MailAsk, 2, 1, bare(x, ballot(3, 2))))
	waits(t, "a wish", r, x, 8)
	r = begins(t, 1, three(), known)
	quiet(t, "a commit", r, 5)
	r.Hear(mail(api.MailCommit, 2, 1, done(x, ballot(2, 0), c, 1)))
	quiet(t, "a commit", r, 50, x)
}

// P8.7: what has a try is as old as 0, and so is what had one.
func TestWaitsBehindTries(t *testing.T) {
	r := begins(t, 1, three())
	proposes(t, r, freeze())
	for range 9 {
		quiet(t, "a try", r, 3, ref(1, 1))
		if out := withoutNext(r.Tick(refs(ref(1, 1)))); len(out.Saves) > 0 || len(out.Mails) != 2 || out.Mails[0].Kind != api.MailPre {
			t.Fatalf("a try: %v", out)
		}
	}
	r.Hear(mail(api.MailNo, 0, 1, bare(ref(1, 1), ballot(1, 0))))
	waits(t, "it has ended", r, ref(1, 1), 8)
	has(t, "another try", r, 1, above(same(seen(ref(1, 1), ballot(0, 1), freeze(), 1)), ballot(2, 1)))
	quiet(t, "another try", r, 3)
	r.Hear(mail(api.MailNo, 0, 1, bare(ref(1, 1), ballot(7, 0))))
	waits(t, "it has ended, too", r, ref(1, 1), 8)
	has(t, "a third try", r, 1, above(same(seen(ref(1, 1), ballot(0, 1), freeze(), 1)), ballot(8, 1)))
}

// asked is the Refs that a tick begins to ask for.
func asked(out api.Out) []api.Ref {
	var l []api.Ref
	for _, x := range out.Saves {
		l = append(l, x.Ref)
	}
	return l
}

// P8.7: of each member those lack that stand below the greatest Index; the first 64 alone count.
func TestLacks(t *testing.T) {
	end := func(lead, index int) api.Inst { return done(ref(lead, index), ballot(0, lead), freeze(), 1) }
	for _, l := range []struct {
		what  string
		known []api.Inst
		want  []api.Ref
	}{
		{"none", saves(end(0, 1), end(0, 2), end(1, 1)), nil},
		{"ahead of the first", saves(end(0, 3)), rows(0, 1, 2)},
		{"between", saves(end(0, 1), end(0, 4), end(0, 6)), refs(ref(0, 2), ref(0, 3), ref(0, 5))},
		{"64", saves(end(0, 65)), rows(0, 1, 64)},
		{"65", saves(end(0, 66)), rows(0, 1, 64)},
		{"very many", saves(end(0, 1<<30)), rows(0, 1, 64)},
		{"many, with some between", saves(end(0, 10), end(0, 11), end(0, 60), end(0, 500)), slices.Concat(rows(0, 1, 9), rows(0, 12, 48), rows(0, 61, 7))},
	} {
		r := begins(t, 0, three(), l.known...)
		quiet(t, l.what, r, 7)
		if got := asked(r.Tick(nil)); !slices.Equal(got, l.want) {
			t.Errorf("%s: %v, not %v", l.what, got, l.want)
		}
	}
	for n, want := range map[int][]api.Ref{8: rows(0, 1, 2), 12: rows(2, 1, 64), 16: rows(1, 1, 64)} {
		a := begins(t, 0, three(), end(0, 3), end(1, 200), end(2, 200))
		for range n - 1 {
			a.Tick(nil)
		}
		if got := asked(a.Tick(nil)); !slices.Equal(got, want) {
			t.Errorf("of each member: at tick %d %v, not %v", n, got, want)
		}
	}
}

// P8.7: what lacks waits from when it lacks; what has come counts no more.
func TestLacksThatChange(t *testing.T) {
	r := begins(t, 0, three(), bare(ref(2, 1), ballot(0, 2)))
	quiet(t, "nothing lacks", r, 5)
	r.Hear(mail(api.MailCommit, 2, 0, done(ref(0, 3), ballot(0, 0), freeze(), 1)))
	quiet(t, "two lack", r, 5)
	r.Hear(mail(api.MailCommit, 2, 0, done(ref(0, 1), ballot(0, 0), freeze(), 1)))
	quiet(t, "one lacks", r, 1)
	out := r.Tick(nil)
	if got := asked(out); !slices.Equal(got, refs(ref(2, 1))) {
		t.Errorf("what was there at first: %v", got)
	}
	out = r.Tick(nil)
	if got := asked(out); !slices.Equal(got, refs(ref(0, 2))) {
		t.Errorf("what lacks: %v", got)
	}
}

// P8.7: with each eighth tick MailNext of each member goes to all others, if there is such an instance.
func TestNexts(t *testing.T) {
	r := begins(t, 3, []int{1, 3, 6}, done(ref(1, 1), ballot(0, 1), freeze(), 1), done(ref(1, 2), ballot(0, 1), freeze(), 2))
	next := func(lead, index int) []api.Mail {
		return mails(api.MailNext, 3, bare(ref(lead, index), ballot(0, 0)), 1, 6)
	}
	for i := 1; i <= 40; i++ {
		out := r.Tick(nil)
		if i%8 != 0 {
			asksNothing(t, "not yet", out)
		} else {
			asks(t, "an eighth tick", out, nil, slices.Concat(next(1, 2+i/8), next(3, 1), next(6, 1))...)
			r.Hear(mail(api.MailCommit, 1, 3, done(ref(1, 2+i/8), ballot(0, 1), freeze(), 3)))
		}
	}
}

// P8.7: the greatest Index has no next one; who is alone asks nobody.
func TestNextsAtTheEnds(t *testing.T) {
	known := []api.Inst{done(ref(1, 1<<30), ballot(0, 1), freeze(), 1), done(ref(2, 1<<30-1), ballot(0, 2), freeze(), 1)}
	r := begins(t, 0, three(), known...)
	for range 7 {
		asksNothing(t, "not yet", r.Tick(nil))
	}
	next := func(lead, index int) []api.Mail {
		return mails(api.MailNext, 0, bare(ref(lead, index), ballot(0, 0)), 1, 2)
	}
	asks(t, "an eighth tick", r.Tick(nil), nil, slices.Concat(next(0, 1), next(2, 1<<30))...)
	r = begins(t, 6, []int{6})
	for range 40 {
		asksNothing(t, "alone", r.Tick(nil))
	}
}

// P8.7: tries come first, by rising Refs, then what waits, by rising Refs, at last MailNext, with what has come to be known.
func TestOrderOfATick(t *testing.T) {
	wants := refs(ref(2, 2), ref(2, 1))
	r := begins(t, 2, three(), bare(ref(2, 4), ballot(0, 2)), bare(ref(2, 3), ballot(0, 2)))
	for range 4 {
		r.Tick(wants)
	}
	a, _ := proposes(t, r, write(1, 1, 7))
	b, _ := proposes(t, r, write(2, 1, 8))
	for range 3 {
		asksNothing(t, "ahead", r.Tick(wants))
	}
	var sent []api.Mail
	sent = append(sent, mails(api.MailPre, 2, same(seen(a, ballot(0, 2), write(1, 1, 7), 1)), 0, 1)...)
	sent = append(sent, mails(api.MailPre, 2, same(seen(b, ballot(0, 2), write(2, 1, 8), 1)), 0, 1)...)
	var kept []api.Inst
	for i := 1; i <= 4; i++ {
		x := bare(ref(2, i), ballot(1, 2))
		kept = append(kept, x)
		sent = append(sent, mails(api.MailAsk, 2, x, 0, 1)...)
	}
	for lead, index := range []int{1, 1, 7} {
		sent = append(sent, mails(api.MailNext, 2, bare(ref(lead, index), ballot(0, 0)), 0, 1)...)
	}
	asks(t, "all of it", r.Tick(wants), kept, sent...)
	if r.Tries() != 6 {
		t.Errorf("%d tries", r.Tries())
	}
}
