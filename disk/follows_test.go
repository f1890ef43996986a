package disk_test

import (
	"math/rand"
	"strings"
	"testing"

	"lamella/api"
	"lamella/disk"
)

// model is a device told the plainest way: its writing calls are numbered, and the power goes at a number.
type model struct {
	room   int
	image  string
	stages []string // none or one
	sure   string
	waits  string
	off    bool
	calls  int
	goesAt int // below 0: at none
}

func need(s string) int {
	n := 0
	for ; n*512 < len(s); n++ {
	}
	return n
}

func (m *model) stage() string { return strings.Join(m.stages, "") }

func (m *model) log() string { return m.sure + m.waits }

func (m *model) used() int { return need(m.image) + need(m.stage()) + need(m.log()) }

// write is a writing call: may says what it would answer, do does it; an Append is laid where the power goes.
func (m *model) write(may api.Errno, do func(), isAppend bool) api.Errno {
	if m.off {
		return api.ErrTorn
	}
	goes := m.calls == m.goesAt
	m.calls++
	if may == api.OK && (!goes || isAppend) {
		do()
	}
	if goes {
		m.off = true
		return api.ErrTorn
	}
	return may
}

func when(bad bool, e api.Errno) api.Errno {
	if bad {
		return e
	}
	return api.OK
}

func (m *model) append(s string) api.Errno {
	full := need(m.log()+s)+need(m.image)+need(m.stage()) > m.room
	return m.write(when(full, api.ErrFull), func() { m.waits += s }, true)
}

func (m *model) sync() api.Errno {
	return m.write(api.OK, func() { m.sure, m.waits = m.log(), "" }, false)
}

func (m *model) cut(n int) api.Errno {
	return m.write(when(n < 0 || n > len(m.log()), api.ErrArg), func() {
		if n <= len(m.sure) {
			m.sure, m.waits = m.sure[:n], ""
		} else {
			m.waits = m.waits[:n-len(m.sure)]
		}
	}, false)
}

func (m *model) put(s string) api.Errno {
	full := need(s)+need(m.image)+need(m.log()) > m.room
	return m.write(when(full, api.ErrFull), func() { m.stages = []string{s} }, false)
}

func (m *model) commit() api.Errno {
	return m.write(when(len(m.stages) == 0, api.ErrNone), func() {
		m.image, m.stages, m.sure, m.waits = m.stage(), nil, "", ""
	}, false)
}

func (m *model) stop(n int) {
	m.goesAt = -1
	if n >= 0 {
		m.goesAt = m.calls + n
	}
}

func (m *model) crash(keep int) {
	for i := range len(m.waits) {
		if i < keep {
			m.sure += m.waits[i : i+1]
		}
	}
	m.waits, m.stages, m.off, m.goesAt = "", nil, false, -1
}

// whole is what a look at a device must tell.
func (m *model) whole() whole {
	w := whole{log: m.log(), sure: len(m.sure), image: m.image, off: m.off, used: m.used(), room: m.room, goes: -1}
	if !m.off {
		w.stage, w.staged = m.stage(), len(m.stages) > 0
		if n := m.goesAt - m.calls; m.goesAt >= 0 && n < far {
			w.goes = n
		}
	}
	return w
}

// some are bytes, often few, sometimes about the edges of sectors, sometimes more than fit.
func some(r *rand.Rand) []byte {
	n := r.Intn(5)
	switch r.Intn(6) {
	case 0:
		n = 512*r.Intn(4) + r.Intn(3) - 1
	case 1:
		n = r.Intn(1500)
	}
	b := make([]byte, max(n, 0))
	r.Read(b)
	return b
}

// both do the same to a device and to its model, and answer what each said.
func both(r *rand.Rand, d *disk.Disk, m *model) (what string, got, want api.Errno) {
	switch r.Intn(12) {
	case 0, 1, 2, 3:
		b := some(r)
		s := string(b)
		got = d.Append(b)
		spoil(b)
		return "Append", got, m.append(s)
	case 4:
		return "Sync", d.Sync(), m.sync()
	case 5:
		n := r.Intn(len(m.log())+3) - 1
		return "Cut", d.Cut(n), m.cut(n)
	case 6, 7:
		b := some(r)
		s := string(b)
		got = d.Stage(b)
		spoil(b)
		return "Stage", got, m.put(s)
	case 8, 9:
		return "Commit", d.Commit(), m.commit()
	case 10:
		n := r.Intn(8) - 1
		d.Stop(n)
		m.stop(n)
		return "Stop", api.OK, api.OK
	}
	keep := r.Intn(len(m.waits)+4) - 2
	d.Crash(keep)
	m.crash(keep)
	return "Crash", api.OK, api.OK
}

// P3.1 to P3.4, P3.6: whatever is drawn, the device is as its model.
func TestDraws(t *testing.T) {
	r := dice()
	for range 300 {
		m := &model{room: 1 + r.Intn(6), goesAt: -1}
		d := device(t, m.room)
		for range 60 {
			ahead := d.Clone()
			was := m.whole()
			what, got, want := both(r, d, m)
			says(t, what, got, want)
			stands(t, what, d, m.whole())
			stands(t, "the clone ahead of "+what, ahead, was)
			if d.Used() > d.Room() {
				t.Errorf("%s: Used %d of %d", what, d.Used(), d.Room())
			}
			if t.Failed() {
				t.FailNow()
			}
		}
	}
}

// logged is what a test of P3.5 has seen of a device while its power was on.
type logged struct {
	image string // the last that was committed
	log   string
	sure  string
}

// see notes what a writing call that was OK, or at which the power went, has done.
func (l *logged) see(t *testing.T, d *disk.Disk, what string, e api.Errno, b []byte) {
	t.Helper()
	switch {
	case e == api.ErrTorn && what == "Append":
		l.log += string(b)
	case e != api.OK:
	case what == "Sync":
		l.sure = l.log
	case what == "Commit":
		*l = logged{image: imageOf(t, d)}
	default:
		l.log = logOf(t, d)
		l.sure = l.sure[:min(len(l.sure), len(l.log))]
	}
}

// draw is a writing call that was drawn.
func draw(r *rand.Rand, d *disk.Disk, length int) (what string, e api.Errno, b []byte) {
	b = some(r)
	switch r.Intn(6) {
	case 0, 1:
		return "Append", d.Append(b), b
	case 2:
		return "Sync", d.Sync(), nil
	case 3:
		return "Cut", d.Cut(r.Intn(length + 1)), nil
	case 4:
		return "Stage", d.Stage(b), nil
	}
	return "Commit", d.Commit(), nil
}

// P3.5: behind any crash, at any call, whatever stays of what waited.
func TestBehindAnyCrash(t *testing.T) {
	r := dice()
	for range 2000 {
		d := device(t, 1+r.Intn(6))
		var l logged
		for range 1 + r.Intn(3) {
			d.Stop(r.Intn(20))
			for !d.Off() {
				what, e, b := draw(r, d, len(l.log))
				l.see(t, d, what, e, b)
			}
			d.Crash(r.Intn(len(l.log)+3) - 1)
			log, image := logOf(t, d), imageOf(t, d)
			if image != l.image {
				t.Fatalf("the image is %q, but %q was committed last", image, l.image)
			}
			if !strings.HasPrefix(log, l.sure) || !strings.HasPrefix(l.log, log) {
				t.Fatalf("the log is %q, it was %q, sure was %q", log, l.log, l.sure)
			}
			l.log, l.sure = log, log
		}
	}
}

// P3.6: what is refused changes nothing; there is no other way for a device to be full.
func TestRefused(t *testing.T) {
	refused := map[string]struct {
		call func(d *disk.Disk) api.Errno
		says api.Errno
	}{
		"Append":             {func(d *disk.Disk) api.Errno { return d.Append(fill(6*512 - 3)) }, api.ErrFull},
		"Append of far more": {func(d *disk.Disk) api.Errno { return d.Append(fill(1 << 20)) }, api.ErrFull},
		"Stage":              {func(d *disk.Disk) api.Errno { return d.Stage(fill(6*512 + 1)) }, api.ErrFull},
		"Stage of far more":  {func(d *disk.Disk) api.Errno { return d.Stage(fill(1 << 20)) }, api.ErrFull},
		"Cut below 0":        {func(d *disk.Disk) api.Errno { return d.Cut(-1) }, api.ErrArg},
		"Cut above all":      {func(d *disk.Disk) api.Errno { return d.Cut(5) }, api.ErrArg},
	}
	for what, c := range refused {
		d := ready(t)
		for range 3 {
			says(t, what, c.call(d), c.says)
			stands(t, what, d, readied())
		}
		fine(t, d.Append([]byte("e")), d.Sync(), d.Commit())
		stands(t, "behind "+what, d, whole{image: "stage", used: 1, room: 8, goes: -1})
	}
}
