package accord_test

import (
	"slices"
	"strconv"
	"testing"

	"lamella/accord"
	"lamella/api"
	"lamella/blocks"
	"lamella/graph"
)

// world is members, what each has kept, the mails between them, and what was decided.
type world struct {
	t        *testing.T
	d        dice
	members  []int
	up       map[int]*accord.Replica
	kept     map[int]map[api.Ref]api.Inst
	mails    []api.Mail
	decided  map[api.Ref]api.Inst
	proposed map[api.Ref]api.Cmd
	past     map[api.Ref][]api.Ref // what was decided when it was proposed
	torn     int                   // of a thousand calls, how many the power goes at
	crashes  int
}

func newWorld(t *testing.T, seed int64, members []int) *world {
	t.Helper()
	w := &world{
		t: t, d: newDice(seed), members: members, up: map[int]*accord.Replica{}, kept: map[int]map[api.Ref]api.Inst{},
		decided: map[api.Ref]api.Inst{}, proposed: map[api.Ref]api.Cmd{}, past: map[api.Ref][]api.Ref{},
	}
	for _, n := range members {
		w.kept[n] = map[api.Ref]api.Inst{}
		w.back(n)
	}
	return w
}

// back lets a member begin anew with what it has kept.
func (w *world) back(n int) {
	w.t.Helper()
	m := &model{n, w.kept[n]}
	w.up[n] = begins(w.t, n, w.members, m.rising()...)
}

// anyone is one of the members that are up; -1.
func (w *world) anyone() int {
	l := w.those(true)
	if len(l) == 0 {
		return -1
	}
	return l[w.d.Intn(len(l))]
}

// those is the members that are up, or that aren't.
func (w *world) those(up bool) []int {
	return slices.DeleteFunc(slices.Clone(w.members), func(n int) bool { return (w.up[n] != nil) != up })
}

// keep notes what a member keeps, and checks what is decided thereby.
func (w *world) keep(n int, x api.Inst) {
	w.t.Helper()
	w.kept[n][x.Ref] = x
	if x.Status != api.Done {
		return
	}
	y, in := w.decided[x.Ref]
	if in && (!alike(api.Inst{Cmd: x.Cmd, Seq: x.Seq, Deps: x.Deps}, api.Inst{Cmd: y.Cmd, Seq: y.Seq, Deps: y.Deps})) {
		w.t.Fatalf("decided twice: %v and %v", y, x)
	}
	if c, in := w.proposed[x.Ref]; x.Cmd.Op != api.OpNone && (!in || !alike(api.Inst{Cmd: c}, api.Inst{Cmd: x.Cmd})) {
		w.t.Fatalf("nobody has proposed %v", x)
	}
	w.decided[x.Ref] = x
}

// does what a call of a member asks for; the power may go meanwhile, and then some of it was kept, and nothing was sent.
func (w *world) does(n int, out api.Out) bool {
	w.t.Helper()
	may(w.t, n, out)
	if w.d.Intn(1000) < w.torn {
		for _, x := range out.Saves[:w.d.Intn(len(out.Saves)+1)] {
			w.keep(n, x)
		}
		w.crash(n)
		return false
	}
	for _, x := range out.Saves {
		w.keep(n, x)
	}
	w.mails = append(w.mails, out.Mails...)
	return true
}

// hasKept checks that all that one that is up knows was kept.
func (w *world) hasKept() {
	w.t.Helper()
	for n, r := range w.up {
		m := &model{n, w.kept[n]}
		if !slices.EqualFunc(r.Insts(), m.rising(), alike) {
			w.t.Fatalf("%d knows %v, and has kept %v", n, r.Insts(), m.rising())
		}
	}
}

func (w *world) crash(n int) {
	delete(w.up, n)
	w.crashes++
}

// propose lets a member propose something.
func (w *world) propose(n int) {
	w.t.Helper()
	c := w.d.cmd(len(w.proposed) + 1)
	x, out, e := w.up[n].Propose(c)
	if e != api.OK {
		w.t.Fatalf("Propose: error %d", e)
	}
	for r := range w.decided {
		w.past[x] = append(w.past[x], r)
	}
	w.proposed[x] = c
	w.does(n, out)
}

// tick lets a member tick, with what it needs to execute what is decided.
func (w *world) tick(n int, more ...api.Ref) {
	w.t.Helper()
	_, wants := graph.Plan(w.up[n].Insts(), nil)
	w.does(n, w.up[n].Tick(append(wants, more...)))
}

// arrive lets the mail number i come, if its member is up.
func (w *world) arrive(i int) {
	w.t.Helper()
	m := w.mails[i]
	if r := w.up[m.To]; r != nil {
		w.does(m.To, r.Hear(m))
	}
}

func (w *world) lose(i int) { w.mails = slices.Delete(w.mails, i, i+1) }

// storm lets something happen, with so many of a hundred mails that are lost, and that come twice.
func (w *world) storm(loss, twice int) {
	w.t.Helper()
	n := w.anyone()
	down := w.those(false)
	switch k := w.d.Intn(100); {
	case len(down) > 0 && k < 4 || n < 0:
		w.back(down[w.d.Intn(len(down))])
	case k < 10:
		w.propose(n)
	case k < 45:
		w.tick(n)
	case len(w.mails) > 0:
		i := w.d.Intn(len(w.mails))
		if w.d.Intn(100) >= loss {
			w.arrive(i)
		}
		if w.d.Intn(100) >= twice {
			w.lose(i)
		}
	}
}

// round lets all mails that are under way arrive, in any order, and all that are up tick.
func (w *world) round(wants ...api.Ref) {
	w.t.Helper()
	l := w.mails
	w.mails = nil
	for _, i := range w.d.Perm(len(l)) {
		if r := w.up[l[i].To]; r != nil {
			w.does(l[i].To, r.Hear(l[i]))
		}
	}
	for _, n := range w.those(true) {
		w.tick(n, wants...)
	}
}

// goTogether checks P8.10 of all that is decided.
func (w *world) goTogether() {
	w.t.Helper()
	for r, x := range w.decided {
		for s, y := range w.decided {
			if r != s && blocks.Meddle(x.Cmd, y.Cmd) && !slices.Contains(x.Deps, s) && !slices.Contains(y.Deps, r) {
				w.t.Fatalf("neither depends on the other: %v, %v", x, y)
			}
		}
		for _, s := range w.past[r] {
			if y := w.decided[s]; blocks.Meddle(x.Cmd, y.Cmd) && x.Seq <= y.Seq {
				w.t.Fatalf("%v was proposed when %v was decided", x, y)
			}
		}
	}
}

// open is what one that is up knows, and another one that is up hasn't as decided.
func (w *world) open(wants ...api.Ref) []api.Ref {
	rows := [][]api.Ref{wants}
	for _, n := range w.those(true) {
		for _, x := range w.up[n].Insts() {
			rows = append(rows, refs(x.Ref))
		}
	}
	return slices.DeleteFunc(graph.Refs(rows...), func(r api.Ref) bool {
		for _, n := range w.those(true) {
			if x, in := w.up[n].Get(r); !in || x.Status != api.Done {
				return false
			}
		}
		return true
	})
}

// P8.9, P8.10, P8.11: storms, and then a calm, in which a majority is up.
func TestStorms(t *testing.T) {
	for i, members := range [][]int{{2}, three(), {1, 3, 6}, five(), {0, 2, 3, 5, 6}, seven()} {
		t.Run(strconv.Itoa(i), func(t *testing.T) {
			t.Parallel()
			crashes, decided := 0, 0
			for k := range 20 {
				w := newWorld(t, int64(100*i+k), members)
				w.torn = 2 + k%5*4
				stormy(w, k%4*12, k/4%3*10)
				calm(w)
				crashes, decided = crashes+w.crashes, decided+len(w.decided)
			}
			if crashes < 50 || decided < 500 {
				t.Errorf("hardly anything happens: %d crashes, %d decided", crashes, decided)
			}
		})
	}
}

// stormy lets much happen, and checks what follows.
func stormy(w *world, loss, twice int) {
	w.t.Helper()
	for i := range 700 {
		w.storm(loss, twice)
		if i%20 == 0 {
			w.hasKept()
		}
	}
	w.goTogether()
	w.torn = 0
}

// calm checks that all that is known, or wanted, comes to be decided, and known to all that are up.
func calm(w *world) {
	w.t.Helper()
	for len(w.those(true)) < len(w.members)/2+1 {
		down := w.those(false)
		w.back(down[w.d.Intn(len(down))])
	}
	for range 3 {
		w.propose(w.anyone())
	}
	lead := w.members[w.d.Intn(len(w.members))]
	wants := refs(ref(lead, w.d.Intn(9)+1), ref(w.members[0], 1))
	rounds := 0
	for rounds < 20 || len(w.open(wants...)) > 0 {
		for range 9 {
			w.round(wants...)
		}
		if rounds += 9; rounds > 400 {
			w.t.Fatalf("of %v members %v are up, and %v is open", w.members, w.those(true), w.open(wants...))
		}
	}
	w.goTogether()
	for _, n := range w.those(true) {
		if w.up[n].Tries() > 0 {
			w.t.Fatalf("%d has %d tries, and nothing is open", n, w.up[n].Tries())
		}
	}
}

// P8.11: without any loss few rounds are enough.
func TestCalm(t *testing.T) {
	for seed := range int64(60) {
		w := newWorld(t, seed, [][]int{{0}, three(), five(), seven()}[seed%4])
		for range 20 {
			w.propose(w.anyone())
			if w.d.Intn(2) == 0 {
				w.round()
			}
		}
		for range 20 {
			w.round()
		}
		if l := w.open(); len(l) > 0 || len(w.decided) != 20 {
			t.Errorf("seed %d: %v is open, %d are decided", seed, l, len(w.decided))
		}
		w.goTogether()
	}
}

// P8.11: what more than 16 behind each other have missed, and what more than 64 lack, comes too.
func TestLongSilence(t *testing.T) {
	w := newWorld(t, 1, three())
	delete(w.up, 2)
	for range 100 {
		w.propose(0)
		w.round()
	}
	w.back(2)
	w.mails = nil
	for range 200 {
		w.round()
	}
	if l := w.open(); len(l) > 0 || len(w.decided) != 100 {
		t.Errorf("%v is open, %d are decided", l, len(w.decided))
	}
	w = newWorld(t, 2, three())
	for range 400 {
		w.round(ref(1, 200))
	}
	if l := w.open(ref(1, 200)); len(l) > 0 || len(w.decided) != 200 {
		t.Errorf("%v is open, %d are decided", l, len(w.decided))
	}
}

// P6: the same calls do the same.
func TestAgain(t *testing.T) {
	var runs [2][]api.Mail
	for i := range runs {
		w := newWorld(t, 9, five())
		w.torn = 5
		for range 500 {
			at := len(w.mails)
			w.storm(10, 5)
			runs[i] = append(runs[i], w.mails[min(at, len(w.mails)):]...)
		}
	}
	if !slices.EqualFunc(runs[0], runs[1], mailsAlike) {
		t.Error("they are others")
	}
}
