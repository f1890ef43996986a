package council_test

import (
	"bytes"
	"slices"
	"strconv"
	"testing"

	"lamella/api"
	"lamella/council"
	"lamella/octet"
)

// world is nodes, what each has kept, the mails between them, and what they have agreed on.
type world struct {
	t       *testing.T
	d       dice
	first   []int // the voters at first
	up      [api.MaxNodes]*council.Council
	kept    [api.MaxNodes][]byte
	mails   []api.Mail
	agreed  map[int]api.Entry // by their numbers
	states  map[int]string    // what all entries up to one come to
	leaders map[int]int       // who has led in a term
	torn    int               // of a thousand calls, how many the power goes at
	offered int
	crashes int
	changes int // of the voters
	snaps   int
}

func newWorld(t *testing.T, seed int64, nodes ...int) *world {
	t.Helper()
	w := &world{t: t, d: newDice(seed), first: nodes, agreed: map[int]api.Entry{}, states: map[int]string{0: ""}, leaders: map[int]int{}}
	for n := range w.up {
		w.up[n] = begins(t, n, nodes...)
		w.kept[n] = w.up[n].Encode()
	}
	return w
}

// parsed is what is kept.
func parsed(t *testing.T, b []byte) state {
	t.Helper()
	r := octet.NewReader(b)
	s := state{term: int(r.Int()), vote: int(r.Int()), index: int(r.Int()), past: int(r.Int()), voters: r.Text(), text: r.Text()}
	s.log = octet.Get(r, func(r *octet.Reader) api.Entry {
		return api.Entry{Term: int(r.Int()), Kind: int(r.Int()), Text: r.Text()}
	})
	if !r.End() || !bytes.Equal(s.bytes(), b) {
		t.Fatalf("% x is what no council keeps", b)
	}
	return s
}

// those is the nodes that are up, or that aren't.
func (w *world) those(up bool) []int {
	var l []int
	for n, c := range w.up {
		if (c != nil) == up {
			l = append(l, n)
		}
	}
	return l
}

// back lets a node begin anew with what it has kept.
func (w *world) back(n int) {
	w.t.Helper()
	c, e := council.Load(n, w.kept[n])
	if e != api.OK {
		w.t.Fatalf("%d doesn't come back: error %d", n, e)
	}
	w.up[n] = c
	if s := parsed(w.t, w.kept[n]); s.text != w.states[s.index] || c.Told() != s.index {
		w.t.Fatalf("%d comes back with %q at %d", n, s.text, s.index)
	}
}

// does what a call asks for; told is what was told ahead of it. The power may go meanwhile: then it was kept or not, and nothing was sent.
func (w *world) does(n, told int, x api.Word) {
	w.t.Helper()
	b := w.up[n].Encode()
	if x.Keep == bytes.Equal(b, w.kept[n]) {
		w.t.Fatalf("%d: Keep is %v", n, x.Keep)
	}
	torn := w.d.Intn(1000) < w.torn
	if torn && w.d.Intn(2) == 0 {
		w.crash(n)
		return
	}
	w.kept[n] = b
	if torn {
		w.crash(n)
		return
	}
	for _, k := range x.News {
		told = w.hearNews(n, told, k)
	}
	if told != w.up[n].Told() {
		w.t.Fatalf("%d has told %d, and says %d", n, told, w.up[n].Told())
	}
	w.mails = append(w.mails, x.Mails...)
	w.oneLeads(n)
}

func (w *world) crash(n int) {
	w.up[n] = nil
	w.crashes++
}

// hearNews checks that News go on from what was told, and are what others have told.
func (w *world) hearNews(n, told int, k api.News) int {
	w.t.Helper()
	if k.Snap {
		if s, in := w.states[k.Index]; !in || s != k.Entry.Text || k.Index <= told {
			w.t.Fatalf("%d tells the base %q at %d behind %d", n, k.Entry.Text, k.Index, told)
		}
		w.snaps++
		return k.Index
	}
	if k.Index != told+1 {
		w.t.Fatalf("%d tells %d behind %d", n, k.Index, told)
	}
	e, in := w.agreed[k.Index]
	if in && e != k.Entry {
		w.t.Fatalf("%d tells %v as number %d, another one %v", n, k.Entry, k.Index, e)
	}
	if !in {
		w.agreed[k.Index] = k.Entry
		w.states[k.Index] = strconv.Itoa(int(octet.Sum([]byte(w.states[k.Index-1]), []byte(k.Entry.Text))))
	}
	return k.Index
}

// oneLeads checks that nobody else has led in the term.
func (w *world) oneLeads(n int) {
	w.t.Helper()
	c := w.up[n]
	if !c.Leads() {
		return
	}
	if m, in := w.leaders[c.Term()]; in && m != n {
		w.t.Fatalf("%d and %d lead in the term %d", m, n, c.Term())
	}
	w.leaders[c.Term()] = n
}

func (w *world) tick(n int) {
	w.t.Helper()
	told := w.up[n].Told()
	w.does(n, told, w.up[n].Tick())
}

// arrive lets a mail come, if its node is up.
func (w *world) arrive(m api.Mail) {
	w.t.Helper()
	if c := w.up[m.To]; c != nil {
		told := c.Told()
		w.does(m.To, told, c.Hear(m))
	}
}

// offer offers something to a node: a change, or one voter more or less.
func (w *world) offer(n int, elect bool) {
	w.t.Helper()
	c := w.up[n]
	told := c.Told()
	kind, text := 1, "offer "+strconv.Itoa(w.offered)
	if elect {
		kind, text = 2, w.d.nextVoters(c)
	}
	x, e := c.Offer(kind, text)
	if e != api.OK {
		return
	}
	if w.offered++; elect {
		w.changes++
	}
	w.does(n, told, x)
}

// nextVoters is one node more or less.
func (d dice) nextVoters(c *council.Council) string {
	bits := 1 << d.Intn(7)
	for _, n := range c.Voters() {
		bits ^= 1 << n
	}
	return names(subset(bits)...)
}

// compact lets a node forget some of what was told.
func (w *world) compact(n int) {
	w.t.Helper()
	c := w.up[n]
	i := c.Told() - w.d.Intn(5)
	if x, e := c.Compact(i, w.states[i]); e == api.OK {
		w.does(n, c.Told(), x)
	}
}

// storm lets something happen, with so many of a hundred mails that are lost, and that come twice.
func (w *world) storm(loss, twice int) {
	w.t.Helper()
	up, down := w.those(true), w.those(false)
	k := w.d.Intn(100)
	if len(down) > 0 && k < 4 || len(up) == 0 {
		w.back(down[w.d.Intn(len(down))])
		return
	}
	n := up[w.d.Intn(len(up))]
	if l := w.theLeaders(); len(l) > 0 && k < 12 {
		n = l[w.d.Intn(len(l))]
	}
	switch {
	case k < 9:
		w.offer(n, false)
	case k < 12:
		w.offer(n, true)
	case k < 14:
		w.compact(n)
	case k < 40:
		w.tick(n)
	case len(w.mails) > 0:
		i := w.d.Intn(len(w.mails))
		m := w.mails[i]
		if w.d.Intn(100) >= twice {
			w.mails = slices.Delete(w.mails, i, i+1)
		}
		if w.d.Intn(100) >= loss {
			w.arrive(m)
		}
	}
}

// theLeaders is those that are up and lead.
func (w *world) theLeaders() []int {
	return slices.DeleteFunc(w.those(true), func(n int) bool { return !w.up[n].Leads() })
}

// round lets all mails that are under way arrive, in any order, and all that are up tick.
func (w *world) round() {
	w.t.Helper()
	l := w.mails
	w.mails = nil
	for _, i := range w.d.Perm(len(l)) {
		w.arrive(l[i])
	}
	for _, n := range w.those(true) {
		w.tick(n)
	}
}

// lastVoters is the last voters that were agreed on, and the number of their entry.
func (w *world) lastVoters() (int, string) {
	for i := len(w.agreed); i > 0; i-- {
		if e := w.agreed[i]; e.Kind == 2 {
			return i, e.Text
		}
	}
	return 0, names(w.first...)
}

// rows is the voters that a node knows of behind the entry number index, and whether it knows that one.
func (w *world) rows(n, index int) (rows []string, knows bool) {
	s := parsed(w.t, w.kept[n])
	if s.index >= index {
		rows, knows = append(rows, s.voters), true
	}
	for i, e := range s.log {
		k := s.index + 1 + i
		knows = knows || k == index && e == w.agreed[k]
		if e.Kind == 2 && knows {
			rows = append(rows, e.Text)
		}
	}
	return rows, knows
}

// candidates is the last voters that were agreed on, and all that somebody knows of behind them.
func (w *world) candidates() []string {
	index, text := w.lastVoters()
	all := []string{text}
	for n := range w.up {
		rows, _ := w.rows(n, index)
		all = append(all, rows...)
	}
	return all
}

// misled: may a node stand, though it has left, or doesn't know the last voters that were agreed on? Such a one asks others than it should, and raises terms, or takes votes, with each election: while it is there, one with a slower clock may not come to lead, or not stay. By the words of P10.5 and P10.6 that can't be helped, so P10.14 is held against calms without such nodes.
func (w *world) misled(n int) bool {
	named := func(text string) bool { return slices.Contains([]byte(text), byte(n)) }
	s := parsed(w.t, w.kept[n])
	may := named(s.voters)
	for _, e := range s.log {
		may = may || e.Kind == 2 && named(e.Text)
	}
	index, _ := w.lastVoters()
	_, knows := w.rows(n, index)
	return may && !(knows && slices.ContainsFunc(w.candidates(), named))
}

// isEnough: are majorities up, whichever of these the voters will be?
func (w *world) isEnough() bool {
	for _, row := range w.candidates() {
		n := 0
		for _, v := range []byte(row) {
			if w.up[v] != nil {
				n++
			}
		}
		if 2*n <= len(row) {
			return false
		}
	}
	return true
}

// gather lets a majority be up, and nobody that is misled; false, where one of these is needed.
func (w *world) gather() bool {
	w.t.Helper()
	for n := range w.up {
		if w.misled(n) {
			w.up[n] = nil
		}
	}
	for !w.isEnough() {
		down := slices.DeleteFunc(w.those(false), w.misled)
		if len(down) == 0 {
			return false
		}
		w.back(down[w.d.Intn(len(down))])
	}
	return true
}

// calm checks P10.14, with a majority, and then with all others that aren't misled. False, if a majority can't be had without these.
func (w *world) calm() bool {
	w.t.Helper()
	if !w.gather() {
		return false
	}
	w.agrees()
	for _, n := range w.those(false) {
		if !w.misled(n) {
			w.back(n)
		}
	}
	w.agrees()
	return true
}

// agrees checks that one comes to lead; and that what it is offered is told to all voters that are up.
func (w *world) agrees() {
	w.t.Helper()
	n := w.settles()
	c := w.up[n]
	text := "offer " + strconv.Itoa(w.offered)
	w.offer(n, false)
	index := c.Last()
	for range 40 {
		w.round()
	}
	if w.agreed[index].Text != text || !c.Leads() {
		w.t.Fatalf("number %d, which was offered to %d, is %v; %v lead", index, n, w.agreed[index], w.theLeaders())
	}
	for _, v := range c.Voters() {
		if x := w.up[v]; x != nil && x.Told() < index {
			w.t.Fatalf("%d has told %d, not %d", v, x.Told(), index)
		}
	}
}

// settles is who leads alone for some rounds, with all voters that are up behind it.
func (w *world) settles() int {
	w.t.Helper()
	for settled, rounds := 0, 0; rounds < 1000; rounds++ {
		w.round()
		settled++
		l := w.theLeaders()
		if len(l) != 1 || !w.isFollowed(l[0]) {
			settled = 0
		}
		if settled == 20 {
			return l[0]
		}
	}
	w.t.Fatalf("of %v nobody comes to lead", w.those(true))
	return -1
}

// isFollowed: do all voters that are up take a node for their leader?
func (w *world) isFollowed(n int) bool {
	return !slices.ContainsFunc(w.up[n].Voters(), func(v int) bool { return w.up[v] != nil && w.up[v].Leader() != n })
}

// P10.12, P10.14, P10.4: storms, and then a calm, in which a majority is up.
func TestStorms(t *testing.T) {
	for i, nodes := range [][]int{{2}, {0, 1}, {0, 1, 2}, {1, 3, 4, 6}, {0, 1, 2, 3, 4}, {0, 1, 2, 3, 4, 5, 6}} {
		t.Run(strconv.Itoa(i), func(t *testing.T) {
			t.Parallel()
			var sum [6]int
			for k := range 30 {
				w := newWorld(t, int64(1000*i+k), nodes...)
				calms := 0
				for range 3 {
					w.torn = k % 5 * 2
					for range 1500 {
						w.storm(k%4*10, k/4%3*10)
					}
					w.torn = 0
					if w.calm() {
						calms++
					}
				}
				for j, n := range []int{w.crashes, len(w.agreed), w.changes, w.snaps, len(w.leaders), calms} {
					sum[j] += n
				}
			}
			for j, least := range []int{150, 3000, 300, 120, 150, 80} {
				if sum[j] < least {
					t.Errorf("hardly anything happens: crashes, agreed, changes, bases, leaders, calms: %v", sum)
				}
			}
		})
	}
}

// P10.14: without any loss few rounds are enough, and all voters hear of all.
func TestCalm(t *testing.T) {
	for bits := 1; bits < 128; bits++ {
		w := newWorld(t, int64(bits), subset(bits)...)
		w.agrees()
		for range 20 {
			w.offer(w.theLeaders()[0], false)
		}
		for range 8 {
			w.round()
		}
		for _, n := range subset(bits) {
			if w.up[n].Told() != 22 {
				t.Errorf("%v: %d has told %d", subset(bits), n, w.up[n].Told())
			}
		}
	}
}

// P10.14: one that was away long gets all, also by the base.
func TestLongAway(t *testing.T) {
	for _, forgets := range []bool{false, true} {
		w := newWorld(t, 1, 0, 1, 2)
		w.up[2] = nil
		w.agrees()
		for range 150 {
			w.offer(w.theLeaders()[0], false)
			w.round()
		}
		if forgets {
			w.compact(0)
			w.compact(1)
		}
		w.back(2)
		for range 30 {
			w.round()
		}
		if n := w.up[2].Told(); n != 152 || (w.snaps > 0) != forgets {
			t.Errorf("it has told %d, bases %d", n, w.snaps)
		}
	}
}

// P10.14: one that has left by an entry that nobody else has, and comes back, doesn't hold up the others.
func TestOneThatLeftAndCameBack(t *testing.T) {
	for _, ahead := range [][]int{{0, 1}, {1}} {
		w := newWorld(t, 1, ahead...)
		w.agrees()
		if len(ahead) == 1 {
			w.offerTo(1, names(0, 1))
			w.elect(0)
		}
		if !w.up[0].Leads() {
			w.elect(0)
		}
		w.offerTo(0, names(1))
		w.mails = nil
		for _, n := range []int{0, 1} {
			w.up[n] = nil
			w.back(n)
		}
		for range 60 {
			w.round()
		}
		if w.up[0].Leads() || !w.up[1].Leads() || !slices.Equal(w.up[1].Voters(), []int{1}) {
			t.Errorf("from %v on: %v lead, voters %v", ahead, w.theLeaders(), w.up[1].Voters())
		}
	}
}

// offerTo offers voters to a node that must take them.
func (w *world) offerTo(n int, text string) {
	w.t.Helper()
	for range 20 {
		w.round()
	}
	told := w.up[n].Told()
	w.does(n, told, offers(w.t, w.up[n], 2, text))
}

// elect lets a node come to lead: it alone ticks.
func (w *world) elect(n int) {
	w.t.Helper()
	for range 20 {
		w.round()
	}
	for _, c := range w.those(true) {
		if c != n {
			w.up[c] = nil
			w.back(c)
		}
	}
	w.mails = nil
	for !w.up[n].Leads() {
		w.tick(n)
		l := w.mails
		w.mails = nil
		for _, m := range l {
			w.arrive(m)
		}
	}
}

// P10.13: whatever voters Offer lets follow others: two majorities of them have a node in common.
func TestMajoritiesMeet(t *testing.T) {
	for a := 1; a < 128; a++ {
		for b := range 128 {
			c := leads(t, subset(a)[0], subset(a)...)
			_, e := c.Offer(2, names(subset(b)...))
			if e != api.OK {
				continue
			}
			for x := range 128 {
				if x&^a != 0 || 2*len(subset(x)) <= len(subset(a)) {
					continue
				}
				if y := b &^ x; 2*len(subset(y)) > len(subset(b)) {
					t.Fatalf("%v of %v and %v of %v have nobody in common", subset(x), subset(a), subset(y), subset(b))
				}
			}
		}
	}
}

// P10.13: all that differ by one node are taken, and no others.
func TestVotersThatFollow(t *testing.T) {
	for a := 1; a < 128; a++ {
		for b := range 128 {
			c := leads(t, subset(a)[0], subset(a)...)
			want := api.ErrArg
			if b > 0 && len(subset(a^b)) == 1 {
				want = api.OK
			}
			if _, e := c.Offer(2, names(subset(b)...)); e != want {
				t.Fatalf("%v behind %v: error %d", subset(b), subset(a), e)
			}
		}
	}
}
