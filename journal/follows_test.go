package journal_test

import (
	"encoding/binary"
	"hash/crc32"
	"math/rand"
	"slices"
	"testing"

	"lamella/api"
	"lamella/disk"
	"lamella/journal"
)

// model is a journal and its disk told the plainest way: which records there are, and how many of them are sure.
type model struct {
	room    int
	image   string
	records []string
	sure    int
	lost    []string // none or one: the record that was laid when the power went, which waits
	down    bool
	left    int // writing calls of the disk till the one at which the power goes, below 0: at none
}

func need(s string) int { return (len(s) + 511) / 512 }

// goes counts a writing call of the disk: does the power go at it?
func (m *model) goes() bool {
	m.down = m.left == 0
	m.left = max(m.left-1, -1)
	return m.down
}

func (m *model) log(more ...string) string {
	return framed(append(slices.Clone(m.records), more...)...)
}

func (m *model) add(s string) api.Errno {
	if m.down {
		return api.ErrDown
	}
	full := need(framed(m.image))+need(m.log(s)) > m.room
	switch {
	case m.goes() && !full:
		m.lost = []string{s}
		return api.ErrTorn
	case m.down:
		return api.ErrTorn
	case full:
		return api.ErrFull
	}
	m.records = append(m.records, s)
	return api.OK
}

func (m *model) sync() api.Errno {
	if m.down {
		return api.ErrDown
	}
	if m.goes() {
		return api.ErrTorn
	}
	m.sure = len(m.records)
	return api.OK
}

func (m *model) save(s string) api.Errno {
	if m.down {
		return api.ErrDown
	}
	full := need(framed(m.image))+need(m.log())+need(framed(s)) > m.room
	switch {
	case m.goes():
		return api.ErrTorn
	case full:
		return api.ErrFull
	case m.goes():
		return api.ErrTorn
	}
	m.image, m.records, m.sure = s, nil, 0
	return api.OK
}

// crash keeps whole records while they fit into keep bytes, and answers how many bytes of the next one stay.
func (m *model) crash(keep int) (rest int) {
	waits := append(slices.Clone(m.records[m.sure:]), m.lost...)
	m.records = slices.Clone(m.records[:m.sure])
	m.lost, m.down, m.left = nil, false, -1
	keep = max(keep, 0)
	for _, s := range waits {
		if keep < len(framed(s)) {
			m.sure = len(m.records)
			return keep
		}
		keep -= len(framed(s))
		m.records = append(m.records, s)
	}
	m.sure = len(m.records)
	return 0
}

// some is a text, often short, sometimes about the edges of sectors, sometimes more than fits.
func some(r *rand.Rand) string {
	n := r.Intn(5)
	switch r.Intn(6) {
	case 0:
		n = 512*r.Intn(4) + r.Intn(20) - 12
	case 1:
		n = r.Intn(1500)
	}
	b := make([]byte, max(n, 0))
	r.Read(b)
	return string(b)
}

// pair is a journal, its disk, and the model of both.
type pair struct {
	d *disk.Disk
	j *journal.Journal
	m *model
}

// draw does the same to the journal and to its model, and answers what each said.
func (p *pair) draw(t *testing.T, r *rand.Rand) (what string, got, want api.Errno) {
	t.Helper()
	s := some(r)
	b := []byte(s)
	defer spoil(b)
	switch r.Intn(12) {
	case 0, 1, 2, 3, 4:
		return "Add", p.j.Add(b), p.m.add(s)
	case 5, 6:
		return "Sync", p.j.Sync(), p.m.sync()
	case 7, 8:
		return "Save", p.j.Save(b), p.m.save(s)
	case 9:
		n := r.Intn(8) - 1
		if !p.d.Off() {
			p.d.Stop(n)
			p.m.left = n
		}
		return "Stop", api.OK, api.OK
	case 10:
		if !p.d.Off() {
			p.j = opened(t, p.d)
		}
		return "Open", api.OK, api.OK
	}
	keep := r.Intn(40) - 2
	if r.Intn(3) == 0 {
		keep = r.Intn(3000)
	}
	p.d.Crash(keep)
	p.m.crash(keep)
	p.j = opened(t, p.d)
	return "Crash and Open", api.OK, api.OK
}

// P4.1 to P4.5: whatever is drawn, the journal is as its model, and its disk has what it tells.
func TestDraws(t *testing.T) {
	r := dice()
	for range 300 {
		m := &model{room: 2 + r.Intn(7), image: "first", left: -1}
		d := device(t, m.room)
		p := &pair{d: d, j: formatted(t, d, m.image), m: m}
		for range 60 {
			what, got, want := p.draw(t, r)
			says(t, what, got, want)
			has(t, what, p.j, m.image, m.records...)
			if p.j.Down() != m.down {
				t.Errorf("%s: Down is %v", what, p.j.Down())
			}
			if !m.down {
				lies(t, what, d, framed(m.image), m.log())
			}
			if t.Failed() {
				t.FailNow()
			}
		}
	}
}

// story is what happens to a journal in the test of all crashes, call by call.
func story() []func(j *journal.Journal, m *model) (got, want api.Errno) {
	type both = func(j *journal.Journal, m *model) (got, want api.Errno)
	add := func(s string) both {
		return func(j *journal.Journal, m *model) (api.Errno, api.Errno) { return j.Add([]byte(s)), m.add(s) }
	}
	save := func(s string) both {
		return func(j *journal.Journal, m *model) (api.Errno, api.Errno) { return j.Save([]byte(s)), m.save(s) }
	}
	sync := func(j *journal.Journal, m *model) (api.Errno, api.Errno) { return j.Sync(), m.sync() }
	return []both{
		add("a"), add(""), sync, add("bb"), add("ccc"), sync, sync, add("d"),
		save("second"), add("e"), add(string(fill(520))), add("f"), sync, add(""), add("g"),
		save(""), save("third"), add("h"), sync, add("ii"),
	}
}

// calls is how many writing calls of the disk the story has.
const calls = 23

// P4.5: the power goes behind each call of the journal, and each number of the bytes that wait stays.
func TestCrashBehindEachCall(t *testing.T) {
	d := device(t, 8)
	j := formatted(t, d, "first")
	m := &model{room: 8, image: "first", left: -1}
	crashes(t, d, m)
	for _, call := range story() {
		got, want := call(j, m)
		says(t, "the story", got, want)
		crashes(t, d, m)
	}
}

// P4.5: the power goes at each call of the disk, and each number of the bytes that wait stays.
func TestCrashAtEachCall(t *testing.T) {
	for stop := range calls {
		d := device(t, 8)
		j := formatted(t, d, "first")
		m := &model{room: 8, image: "first", left: stop}
		d.Stop(stop)
		for _, call := range story() {
			got, want := call(j, m)
			says(t, "the story", got, want)
			has(t, "the story", j, m.image, m.records...)
		}
		if !d.Off() || !j.Down() {
			t.Errorf("Stop(%d): Off %v, Down %v", stop, d.Off(), j.Down())
		}
		crashes(t, d, m)
	}
}

// crashes crashes clones of a disk, so that each number of the bytes that wait stays once.
func crashes(t *testing.T, d *disk.Disk, m *model) {
	t.Helper()
	waits := len(framed(append(slices.Clone(m.records[m.sure:]), m.lost...)...))
	for keep := -1; keep <= waits+1; keep++ {
		c, n := d.Clone(), *m
		c.Crash(keep)
		rest := n.crash(keep)
		log, e := c.Log()
		fine(t, e)
		if len(log) != len(n.log())+rest {
			t.Fatalf("keep %d: the log has %d bytes, want %d and %d", keep, len(log), len(n.log()), rest)
		}
		j := opened(t, c)
		has(t, "behind a crash", j, n.image, n.records...)
		lies(t, "behind a crash", c, framed(n.image), n.log())
		has(t, "opened again", opened(t, c), n.image, n.records...)
		says(t, "Add behind it", j.Add([]byte("new")), api.OK)
		c.Crash(waits + 100)
		has(t, "one more", opened(t, c), n.image, append(n.records, "new")...)
	}
}

// P4.5: crash upon crash, with an Open at which the power goes between.
func TestCrashesInARow(t *testing.T) {
	d, j := made(t)
	add(t, j, "dd")
	for n := range 6 {
		d.Crash(11 + 5)
		d.Stop(0)
		k, e := journal.Open(d)
		refused(t, "an Open that is torn", api.ErrTorn, k, e)
		d.Crash(n)
	}
	hasMade(t, "behind them", opened(t, d))
	liesMade(t, "behind them", d)
}

// unframed takes s apart by the words of P1.4: whole frames, and why it ended.
func unframed(s string) (data []string, used int, e api.Errno) {
	for used < len(s) {
		rest := s[used:]
		if len(rest) < 4 {
			return data, used, api.ErrCode
		}
		n := int(binary.LittleEndian.Uint32([]byte(rest)))
		if n > 1<<20 || len(rest) < n+8 {
			return data, used, api.ErrCode
		}
		if crc32.ChecksumIEEE([]byte(rest[:4+n])) != binary.LittleEndian.Uint32([]byte(rest[4+n:])) {
			return data, used, api.ErrSum
		}
		data = append(data, rest[4:4+n])
		used += n + 8
	}
	return data, used, api.OK
}

// judged is what Open must say of an image and a log, and of which records.
func judged(image, log string) (e api.Errno, state string, records []string) {
	if image == "" {
		return api.ErrNone, "", nil
	}
	l, _, e := unframed(image)
	if len(l) == 0 {
		return e, "", nil
	}
	if len(image) > len(framed(l[0])) {
		return api.ErrCode, "", nil
	}
	records, _, e = unframed(log)
	if e == api.ErrSum {
		return e, "", nil
	}
	return api.OK, l[0], records
}

// bytesOf draws a row of frames, some of them whole, with faults and any bytes between.
func bytesOf(r *rand.Rand, parts int) string {
	s := ""
	for range r.Intn(parts + 1) {
		f := framed(some(r))
		switch r.Intn(12) {
		case 0:
			f = f[:r.Intn(len(f))]
		case 1:
			f = flip(f, r.Intn(8*len(f)))
		case 2:
			f = some(r)
		case 3:
			f = string(make([]byte, r.Intn(12)))
		}
		s += f
	}
	if r.Intn(4) == 0 && s != "" {
		s = s[:r.Intn(len(s))]
	}
	return s
}

// P4.2, P4.6: whatever lies on a disk.
func TestAnyBytes(t *testing.T) {
	r := dice()
	seen := map[api.Errno]int{}
	for range 6000 {
		image, log := framed(some(r)), bytesOf(r, 5)
		if r.Intn(3) == 0 {
			image = bytesOf(r, 2)
		}
		want, state, records := judged(image, log)
		seen[want]++
		if want != api.OK {
			opens(t, "any bytes", image, log, want)
			continue
		}
		d := laid(t, image, log)
		found(t, d, state, records)
		if t.Failed() {
			t.Fatalf("image % x, log % x", image, log)
		}
	}
	for _, e := range []api.Errno{api.OK, api.ErrNone, api.ErrCode, api.ErrSum} {
		if seen[e] < 50 {
			t.Errorf("error %d was drawn %d times only", e, seen[e])
		}
	}
}

// found checks P4.6 of a disk that Open takes: Format and Add lay the same elsewhere, and a second Open finds the same.
func found(t *testing.T, d *disk.Disk, state string, records []string) {
	t.Helper()
	j := opened(t, d)
	has(t, "the first Open", j, state, records...)
	other := device(t, d.Room())
	k := formatted(t, other, string(j.Image()))
	for _, b := range j.Records() {
		fine(t, k.Add(b))
	}
	image, e := other.Image()
	fine(t, e)
	log, e := other.Log()
	fine(t, e)
	lies(t, "as Format and Add lay it", d, string(image), string(log))
	has(t, "the second Open", opened(t, d), state, records...)
	d.Crash(0)
	has(t, "an Open behind a crash", opened(t, d), state, records...)
}

// P4.6: a state that is large, and a log of many records.
func TestMany(t *testing.T) {
	d := device(t, 4000)
	j := formatted(t, d, string(fill(100000)))
	var records []string
	for i := range 3000 {
		records = append(records, string(fill(i%70)))
	}
	add(t, j, records...)
	fine(t, j.Sync())
	d.Crash(0)
	found(t, d, string(fill(100000)), records)
}
