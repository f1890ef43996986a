package accord_test

import (
	"testing"

	"lamella/api"
)

// P8.4: mails that say nothing, each with one thing that is wrong.
func TestMailsThatSayNothing(t *testing.T) {
	known := taken(ref(1, 1), ballot(2, 1), write(0, 1, 0), 3)
	good := func() api.Mail { return mail(api.MailAsk, 1, 3, bare(ref(1, 1), ballot(3, 1))) }
	for what, change := range map[string]func(m *api.Mail){
		"to another one":            func(m *api.Mail) { m.To = 6 },
		"to nobody":                 func(m *api.Mail) { m.To = 100 },
		"from self":                 func(m *api.Mail) { m.From = 3 },
		"from one who is no node":   func(m *api.Mail) { m.From = 7 },
		"from a client":             func(m *api.Mail) { m.From = 100 },
		"from below 0":              func(m *api.Mail) { m.From = -1 },
		"from one who is no member": func(m *api.Mail) { m.From = 2 },
		"of another shard":          func(m *api.Mail) { m.Shard = 4 },
		"kind 0":                    func(m *api.Mail) { m.Kind = 0 },
		"kind 10":                   func(m *api.Mail) { m.Kind = 10 },
		"the council's kind":        func(m *api.Mail) { m.Kind = api.MailVote },
		"a client's kind":           func(m *api.Mail) { m.Kind = api.MailRequest },
		"kind below 0":              func(m *api.Mail) { m.Kind = -1 },
		"an Index that may not be":  func(m *api.Mail) { m.Inst.Ref.Index = 0 },
		"a Lead that may not be":    func(m *api.Mail) { m.Inst.Ref.Lead = 7 },
		"a Lead that is no member":  func(m *api.Mail) { m.Inst.Ref.Lead = 2 },
		"a ballot too great":        func(m *api.Mail) { m.Inst.Ballot.N = 1<<30 + 1 },
		"a Seq of nothing":          func(m *api.Mail) { m.Inst.Seq = 1 },
		"a status too great":        func(m *api.Mail) { m.Inst.Status = 4 },
	} {
		r := begins(t, 3, []int{1, 3, 6}, known)
		m := good()
		change(&m)
		asksNothing(t, what, r.Hear(m))
		has(t, what, r, 0, known)
	}
	r := begins(t, 3, []int{1, 3, 6}, known)
	x := above(known, ballot(3, 1))
	asks(t, "nothing is wrong", r.Hear(good()), saves(x), mail(api.MailTell, 3, 1, x))
}

// P8.4: MailPre, MailTake and MailCommit of a Status that isn't theirs say nothing; MailAsk and MailNext are of any.
func TestMailsByStatus(t *testing.T) {
	x := func(status int) api.Inst {
		if status == api.None {
			return bare(ref(1, 1), ballot(0, 1))
		}
		return inst(status, ref(1, 1), ballot(0, 1), write(0, 1, 0), 1)
	}
	own := map[int]int{api.MailPre: api.Seen, api.MailTake: api.Taken, api.MailCommit: api.Done}
	for kind, want := range own {
		for status := api.None; status <= api.Done; status++ {
			r := begins(t, 0, three())
			out := r.Hear(mail(kind, 1, 0, x(status)))
			if (len(out.Saves) > 0) != (status == want) || len(r.Insts()) != len(out.Saves) {
				t.Errorf("kind %d of status %d: %v", kind, status, out)
			}
		}
	}
	for status := api.None; status <= api.Done; status++ {
		r := begins(t, 0, three(), done(ref(2, 1), ballot(0, 2), freeze(), 1))
		asks(t, "an ask", r.Hear(mail(api.MailAsk, 1, 0, x(status))), saves(x(api.None)), mail(api.MailTell, 0, 1, x(api.None)))
		y := x(status)
		y.Ref.Lead = 2
		asks(t, "a next", r.Hear(mail(api.MailNext, 1, 0, y)), nil, mail(api.MailCommit, 0, 1, done(ref(2, 1), ballot(0, 2), freeze(), 1)))
	}
}

// P8.4: MailPre of what nothing is known of, with what the table knows beside it.
func TestPre(t *testing.T) {
	a := done(ref(2, 1), ballot(0, 2), write(2, 1, 0), 5)
	c := write(1, 1, 0)
	for _, l := range []struct {
		what       string
		told, want api.Inst
	}{
		{"the same order", seen(ref(1, 1), ballot(0, 1), c, 6, ref(2, 1)), same(seen(ref(1, 1), ballot(0, 1), c, 6, ref(2, 1)))},
		{"more than the table knows", seen(ref(1, 1), ballot(0, 1), c, 9, ref(0, 7), ref(2, 1)), same(seen(ref(1, 1), ballot(0, 1), c, 9, ref(0, 7), ref(2, 1)))},
		{"Same doesn't matter", same(seen(ref(1, 1), ballot(0, 1), c, 6, ref(2, 1))), same(seen(ref(1, 1), ballot(0, 1), c, 6, ref(2, 1)))},
		{"a lower Seq", seen(ref(1, 1), ballot(0, 1), c, 5, ref(2, 1)), seen(ref(1, 1), ballot(0, 1), c, 6, ref(2, 1))},
		{"other Deps", seen(ref(1, 1), ballot(0, 1), c, 6, ref(0, 3)), seen(ref(1, 1), ballot(0, 1), c, 6, ref(0, 3), ref(2, 1))},
		{"no Deps", seen(ref(1, 1), ballot(0, 1), c, 7), seen(ref(1, 1), ballot(0, 1), c, 7, ref(2, 1))},
		{"what meddles with none", seen(ref(1, 1), ballot(0, 1), read(1, 9, 10), 1), same(seen(ref(1, 1), ballot(0, 1), read(1, 9, 10), 1))},
		{"a Seq of 0", seen(ref(1, 1), ballot(0, 1), read(1, 9, 10), 0), seen(ref(1, 1), ballot(0, 1), read(1, 9, 10), 1)},
		{"a lower Vote", above(seen(ref(1, 1), ballot(0, 0), c, 6, ref(2, 1)), ballot(0, 1)), same(seen(ref(1, 1), ballot(0, 1), c, 6, ref(2, 1)))},
		{"a greater ballot", seen(ref(1, 1), ballot(1, 1), c, 6, ref(2, 1)), seen(ref(1, 1), ballot(1, 1), c, 6, ref(2, 1))},
		{"another one's ballot", same(seen(ref(1, 1), ballot(3, 2), c, 1)), seen(ref(1, 1), ballot(3, 2), c, 6, ref(2, 1))},
	} {
		r := begins(t, 0, three(), a)
		asks(t, l.what, r.Hear(mail(api.MailPre, 1, 0, l.told)), saves(l.want), mail(api.MailPreOk, 0, 1, l.want))
		has(t, l.what, r, 0, l.want, a)
	}
}

// P8.4: of the ballot zero, which is that of what nothing is known of, too.
func TestPreOfTheBallotZero(t *testing.T) {
	x := same(seen(ref(0, 1), ballot(0, 0), freeze(), 1))
	for _, l := range [][]api.Inst{nil, {bare(ref(0, 1), ballot(0, 0))}} {
		r := begins(t, 1, three(), l...)
		asks(t, "for the first time", r.Hear(mail(api.MailPre, 0, 1, x)), saves(x), mail(api.MailPreOk, 1, 0, x))
		asks(t, "once more", r.Hear(mail(api.MailPre, 0, 1, x)), nil, mail(api.MailPreOk, 1, 0, x))
	}
}

// P8.4: nothing, if N is 0 and the sender, or the ballot's Node, isn't the Lead; but who is behind is told so.
func TestPreOfOthersAtFirst(t *testing.T) {
	c := freeze()
	r := begins(t, 0, three())
	for _, m := range []api.Mail{
		mail(api.MailPre, 2, 0, seen(ref(1, 1), ballot(0, 1), c, 1)),
		mail(api.MailPre, 1, 0, seen(ref(1, 1), ballot(0, 2), c, 1)),
		mail(api.MailPre, 2, 0, seen(ref(1, 1), ballot(0, 2), c, 1)),
		mail(api.MailPre, 1, 0, seen(ref(0, 1), ballot(0, 0), c, 1)),
	} {
		asksNothing(t, "not the Lead's", r.Hear(m))
	}
	has(t, "nothing", r, 0)
	x := seen(ref(1, 1), ballot(1, 1), c, 1)
	asks(t, "from N 1 on", r.Hear(mail(api.MailPre, 2, 0, x)), saves(x), mail(api.MailPreOk, 0, 2, x))
	asks(t, "a lower one", r.Hear(mail(api.MailPre, 2, 0, seen(ref(1, 1), ballot(0, 1), c, 1))), nil, mail(api.MailNo, 0, 2, bare(ref(1, 1), ballot(1, 1))))
	r = begins(t, 0, three(), done(ref(1, 1), ballot(1, 1), c, 1))
	asks(t, "it is done", r.Hear(mail(api.MailPre, 2, 0, seen(ref(1, 1), ballot(0, 1), c, 1))), nil, mail(api.MailCommit, 0, 2, done(ref(1, 1), ballot(1, 1), c, 1)))
}

// P8.4: MailPre of what is known.
func TestPreOfWhatIsKnown(t *testing.T) {
	c, b := write(1, 1, 0), ballot(2, 1)
	told := seen(ref(1, 1), b, c, 4, ref(2, 9))
	for _, l := range []struct {
		what  string
		known api.Inst
	}{
		{"a ballot", bare(ref(1, 1), ballot(2, 0))},
		{"the ballot", bare(ref(1, 1), b)},
		{"seen by a lower one", seen(ref(1, 1), ballot(0, 1), write(1, 7, 3), 9, ref(0, 3))},
		{"the same by a lower one", above(same(seen(ref(1, 1), ballot(0, 1), c, 4, ref(2, 9))), b)},
		{"taken by a lower one", above(taken(ref(1, 1), ballot(2, 0), write(1, 7, 3), 9, ref(0, 3)), b)},
	} {
		r := begins(t, 0, three(), l.known)
		asks(t, l.what, r.Hear(mail(api.MailPre, 2, 0, told)), saves(told), mail(api.MailPreOk, 0, 2, told))
		has(t, l.what, r, 0, told)
	}
	for _, known := range []api.Inst{seen(ref(1, 1), b, c, 6, ref(2, 9), ref(2, 10)), same(seen(ref(1, 1), b, c, 6))} {
		r := begins(t, 0, three(), known)
		asks(t, "the same answer as ahead", r.Hear(mail(api.MailPre, 2, 0, told)), nil, mail(api.MailPreOk, 0, 2, known))
		has(t, "the same answer as ahead", r, 0, known)
	}
	known := taken(ref(1, 1), b, c, 6)
	r := begins(t, 0, three(), known)
	asksNothing(t, "taken by it", r.Hear(mail(api.MailPre, 2, 0, told)))
	has(t, "taken by it", r, 0, known)
}

// P8.4: MailTake of all that may be known; it is taken as it is, whatever the table says.
func TestTake(t *testing.T) {
	c, b := write(1, 1, 0), ballot(2, 1)
	other := done(ref(2, 1), ballot(0, 2), freeze(), 8)
	told := same(above(taken(ref(1, 1), ballot(0, 1), c, 4, ref(2, 9)), b))
	want := taken(ref(1, 1), b, c, 4, ref(2, 9))
	for _, l := range []struct {
		what  string
		known []api.Inst
	}{
		{"nothing", nil},
		{"a ballot", saves(bare(ref(1, 1), ballot(2, 0)))},
		{"the ballot", saves(bare(ref(1, 1), b))},
		{"seen by it", saves(same(seen(ref(1, 1), b, c, 3)))},
		{"seen by a lower one", saves(seen(ref(1, 1), ballot(0, 1), c, 9))},
		{"taken by a lower one", saves(above(taken(ref(1, 1), ballot(2, 0), api.Cmd{}, 0), b))},
	} {
		r := begins(t, 0, three(), append(l.known, other)...)
		asks(t, l.what, r.Hear(mail(api.MailTake, 2, 0, told)), saves(want), mail(api.MailTakeOk, 0, 2, want))
		has(t, l.what, r, 0, want, other)
		asks(t, "once more", r.Hear(mail(api.MailTake, 1, 0, told)), nil, mail(api.MailTakeOk, 0, 1, want))
	}
	zero := taken(ref(0, 1), ballot(0, 0), api.Cmd{}, 0)
	r := begins(t, 1, three())
	asks(t, "the ballot zero", r.Hear(mail(api.MailTake, 2, 1, zero)), saves(zero), mail(api.MailTakeOk, 1, 2, zero))
}

// P8.4: MailPre, MailTake and MailAsk below the ballot, and of what is done.
func TestRefusals(t *testing.T) {
	c := write(1, 1, 0)
	for _, b := range []api.Ballot{ballot(3, 1), ballot(4, 0)} {
		for _, known := range []api.Inst{bare(ref(1, 1), b), above(seen(ref(1, 1), ballot(0, 1), c, 1), b), taken(ref(1, 1), b, c, 1)} {
			for _, m := range []api.Mail{
				mail(api.MailPre, 2, 0, seen(ref(1, 1), ballot(3, 0), c, 1)),
				mail(api.MailTake, 2, 0, taken(ref(1, 1), ballot(3, 0), c, 1)),
				mail(api.MailAsk, 2, 0, bare(ref(1, 1), ballot(3, 0))),
			} {
				r := begins(t, 0, three(), known)
				asks(t, "below", r.Hear(m), nil, mail(api.MailNo, 0, 2, bare(ref(1, 1), b)))
				has(t, "below", r, 0, known)
			}
		}
	}
	known := same(above(done(ref(1, 1), ballot(0, 1), c, 1, ref(2, 2)), ballot(5, 2)))
	for _, b := range []api.Ballot{ballot(0, 1), ballot(5, 2), ballot(9, 2)} {
		for _, m := range []api.Mail{
			mail(api.MailPre, 1, 0, seen(ref(1, 1), b, c, 1)),
			mail(api.MailTake, 1, 0, taken(ref(1, 1), b, c, 1)),
			mail(api.MailAsk, 1, 0, bare(ref(1, 1), b)),
		} {
			r := begins(t, 0, three(), known)
			asks(t, "done", r.Hear(m), nil, mail(api.MailCommit, 0, 1, known))
			has(t, "done", r, 0, known)
		}
	}
}

// P8.4: MailAsk changes the ballot alone.
func TestAsk(t *testing.T) {
	c, b := write(1, 1, 0), ballot(2, 1)
	for _, known := range [][]api.Inst{
		nil,
		{bare(ref(1, 1), ballot(2, 0))},
		{same(seen(ref(1, 1), ballot(0, 1), c, 1, ref(0, 3)))},
		{above(taken(ref(1, 1), ballot(0, 1), c, 1), ballot(1, 2))},
	} {
		r := begins(t, 0, three(), known...)
		x := bare(ref(1, 1), b)
		for _, y := range known {
			x = above(y, b)
		}
		asked := bare(ref(1, 1), b)
		asks(t, "a greater one", r.Hear(mail(api.MailAsk, 2, 0, asked)), saves(x), mail(api.MailTell, 0, 2, x))
		has(t, "a greater one", r, 0, x)
		asks(t, "the same one", r.Hear(mail(api.MailAsk, 1, 0, asked)), nil, mail(api.MailTell, 0, 1, x))
		has(t, "the same one", r, 0, x)
	}
	r := begins(t, 0, three())
	asks(t, "the ballot zero", r.Hear(mail(api.MailAsk, 1, 0, bare(ref(1, 1), ballot(0, 0)))), nil, mail(api.MailTell, 0, 1, bare(ref(1, 1), ballot(0, 0))))
	has(t, "the ballot zero", r, 0)
}

// P8.4: MailCommit is taken once, and its ballot is the greater one.
func TestCommit(t *testing.T) {
	c := write(1, 1, 0)
	told := same(above(done(ref(1, 1), ballot(0, 1), c, 4, ref(2, 9)), ballot(2, 1)))
	for _, l := range []struct {
		what  string
		known []api.Inst
		want  api.Inst
	}{
		{"nothing", nil, told},
		{"a lower ballot", saves(bare(ref(1, 1), ballot(2, 0))), told},
		{"a greater ballot", saves(bare(ref(1, 1), ballot(2, 2))), above(told, ballot(2, 2))},
		{"seen", saves(seen(ref(1, 1), ballot(0, 1), write(0, 1, 7), 9)), told},
		{"taken by a greater one", saves(taken(ref(1, 1), ballot(3, 0), c, 9)), above(told, ballot(3, 0))},
	} {
		r := begins(t, 0, three(), l.known...)
		asks(t, l.what, r.Hear(mail(api.MailCommit, 2, 0, told)), saves(l.want))
		has(t, l.what, r, 0, l.want)
		asksNothing(t, "once more", r.Hear(mail(api.MailCommit, 1, 0, told)))
		asksNothing(t, "another one", r.Hear(mail(api.MailCommit, 1, 0, done(ref(1, 1), ballot(9, 1), freeze(), 7))))
		has(t, l.what, r, 0, l.want)
	}
}

// P8.4: MailNext is answered by what is done from there on, rising, 16 at most.
func TestNext(t *testing.T) {
	var l []api.Inst
	var want []api.Mail
	for i := 40; i >= 1; i-- {
		x := done(ref(1, i), ballot(0, 1), write(1, i, 0), i)
		if i%3 == 0 {
			x.Status = api.Taken
		}
		l = append(l, x, done(ref(2, i), ballot(0, 2), freeze(), i))
	}
	r := begins(t, 0, three(), l...)
	for _, from := range []int{1, 2, 3, 5, 17, 18, 25, 40, 41, 1 << 30} {
		want = nil
		for i := from; i <= 40 && len(want) < 16; i++ {
			if i%3 != 0 {
				want = append(want, mail(api.MailCommit, 0, 2, done(ref(1, i), ballot(0, 1), write(1, i, 0), i)))
			}
		}
		asks(t, "a next", r.Hear(mail(api.MailNext, 2, 0, bare(ref(1, from), ballot(0, 0)))), nil, want...)
	}
	asksNothing(t, "of one who has none", r.Hear(mail(api.MailNext, 2, 0, bare(ref(0, 1), ballot(0, 0)))))
	if len(r.Insts()) != 80 {
		t.Error("something has changed")
	}
}
