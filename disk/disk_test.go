package disk_test

import (
	"math"
	"testing"

	"lamella/api"
	"lamella/disk"
)

// P3.1
func TestNew(t *testing.T) {
	for _, room := range []int{1, 2, 100, api.MaxRoom - 1, api.MaxRoom} {
		d, e := disk.New(room)
		if d == nil || e != api.OK {
			t.Errorf("New(%d): %v, %d", room, d, e)
			continue
		}
		stands(t, "a new device", d, whole{room: room, goes: -1})
	}
	for _, room := range []int{0, -1, math.MinInt, api.MaxRoom + 1, math.MaxInt} {
		if d, e := disk.New(room); d != nil || e != api.ErrArg {
			t.Errorf("New(%d): %v, %d", room, d, e)
		}
	}
}

// P3.1
func TestNewOnesAreApart(t *testing.T) {
	a, b := device(t, 2), device(t, 3)
	fine(t, a.Append([]byte("a")), a.Stage([]byte("s")), a.Sync())
	stands(t, "the other one", b, whole{room: 3, goes: -1})
}

// P3.1: each of the three takes sectors of its own, and none for no bytes.
func TestUsed(t *testing.T) {
	for _, c := range []struct{ bytes, sectors int }{
		{0, 0}, {1, 1}, {2, 1}, {511, 1}, {512, 1}, {513, 2}, {1023, 2}, {1024, 2}, {1025, 3}, {512 * 20, 20}, {512*20 + 1, 21},
	} {
		log, stage, image := device(t, 50), device(t, 50), device(t, 50)
		fine(t, log.Append(fill(c.bytes)), stage.Stage(fill(c.bytes)), image.Stage(fill(c.bytes)), image.Commit())
		for what, d := range map[string]*disk.Disk{"log": log, "stage": stage, "image": image} {
			if d.Used() != c.sectors || d.Room() != 50 {
				t.Errorf("%s of %d bytes: Used %d of %d, want %d", what, c.bytes, d.Used(), d.Room(), c.sectors)
			}
		}
	}
}

// P3.1: what is used rises and falls with what stands there.
func TestUsedGoesOn(t *testing.T) {
	d := device(t, 20)
	is := func(what string, e api.Errno, want int) {
		t.Helper()
		if e != api.OK || d.Used() != want {
			t.Errorf("%s: error %d, Used %d, want %d", what, e, d.Used(), want)
		}
	}
	is("Append 500", d.Append(fill(500)), 1)
	is("Append 12 more", d.Append(fill(12)), 1)
	is("Append 1 more", d.Append(fill(1)), 2)
	is("Sync", d.Sync(), 2)
	is("Cut to 512", d.Cut(512), 1)
	is("Stage 1", d.Stage(fill(1)), 2)
	is("Stage 2000 in its place", d.Stage(fill(2000)), 5)
	is("Commit", d.Commit(), 4)
	is("Append 1", d.Append(fill(1)), 5)
	is("Stage 600", d.Stage(fill(600)), 7)
	is("Cut to 0", d.Cut(0), 6)
	is("Append 513, which wait", d.Append(fill(513)), 8)
	d.Crash(512)
	is("Crash that keeps 512", api.OK, 5)
	is("Stage nothing", d.Stage(nil), 5)
	is("Commit nothing", d.Commit(), 0)
}

// P3.1: Used and Room answer while the power is off, too.
func TestUsedWhileOff(t *testing.T) {
	d := ready(t)
	d.Stop(0)
	says(t, "Append at which the power goes", d.Append(fill(600)), api.ErrTorn)
	if d.Used() != 4 || d.Room() != 8 {
		t.Errorf("Used %d of %d, want 4 of 8", d.Used(), d.Room())
	}
}

// P3.4
func TestLogAndImage(t *testing.T) {
	d := device(t, 8)
	if b, e := d.Log(); len(b) != 0 || e != api.OK {
		t.Errorf("a new device's Log: %q, %d", b, e)
	}
	if b, e := d.Image(); len(b) != 0 || e != api.OK {
		t.Errorf("a new device's Image: %q, %d", b, e)
	}
	d = ready(t)
	for range 2 {
		if b, e := d.Log(); string(b) != "abcd" || e != api.OK {
			t.Errorf("Log: %q, %d", b, e)
		}
		if b, e := d.Image(); string(b) != "image" || e != api.OK {
			t.Errorf("Image: %q, %d", b, e)
		}
	}
	stands(t, "behind them", d, readied())
}

// P3.4: who changes what was answered changes nothing on the device, and the device changes no answer.
func TestLogAndImageAreNew(t *testing.T) {
	d := ready(t)
	log, _ := d.Log()
	image, _ := d.Image()
	spoil(log)
	spoil(image)
	stands(t, "behind answers that are spoilt", d, readied())

	log, _ = d.Log()
	image, _ = d.Image()
	fine(t, d.Cut(0), d.Append([]byte("wxyz")), d.Commit(), d.Append([]byte("wxyz")))
	if string(log) != "abcd" || string(image) != "image" {
		t.Errorf("answers that changed: %q, %q", log, image)
	}
}

// P3.4
func TestClone(t *testing.T) {
	d := ready(t)
	c := d.Clone()
	if c == nil || c == d {
		t.Fatal("none, or the same one")
	}
	stands(t, "the clone", c, readied())
	stands(t, "the original", d, readied())
	empty := device(t, 4).Clone()
	stands(t, "a new one's clone", empty, whole{room: 4, goes: -1})
}

// P3.4: a Stop that holds, and a power that is off, are of the same.
func TestCloneOfThePower(t *testing.T) {
	d := ready(t)
	d.Stop(2)
	fine(t, d.Sync())
	c := d.Clone()
	says(t, "the clone's first call", c.Sync(), api.OK)
	says(t, "the clone's second call", c.Append([]byte("e")), api.ErrTorn)
	if !c.Off() || d.Off() {
		t.Errorf("Off: the clone %v, the original %v", c.Off(), d.Off())
	}
	c = c.Clone()
	says(t, "the second clone", c.Sync(), api.ErrTorn)
	if !c.Off() {
		t.Error("a clone of one that is off is on")
	}
	c.Crash(1)
	if got := logOf(t, c); got != "abcde" {
		t.Errorf("the second clone's log: %q", got)
	}
	says(t, "the original's first call", d.Sync(), api.OK)
	says(t, "the original's second call", d.Sync(), api.ErrTorn)
}

// P3.4: whatever is done to one of them, the other stays.
func TestCloneIsApart(t *testing.T) {
	changes := map[string]func(d *disk.Disk){
		"Crash": func(d *disk.Disk) { d.Crash(0) },
		"Stop":  func(d *disk.Disk) { d.Stop(1) },
		"all bytes": func(d *disk.Disk) {
			fine(t, d.Cut(0), d.Append([]byte("wxyzwxyz")), d.Sync(), d.Stage([]byte("STAGE")), d.Commit())
			fine(t, d.Append([]byte("WXYZ")), d.Stage([]byte("stage")))
		},
		"an end behind the common one": func(d *disk.Disk) { fine(t, d.Append([]byte("1"))) },
		"power that goes": func(d *disk.Disk) {
			d.Stop(0)
			says(t, "Append", d.Append([]byte("2")), api.ErrTorn)
		},
	}
	for what, call := range writing() {
		changes[what] = func(d *disk.Disk) { fine(t, call(d)) }
	}
	for what, change := range changes {
		d := ready(t)
		c := d.Clone()
		change(c)
		stands(t, what+" of the clone: the original", d, readied())
		d = ready(t)
		c = d.Clone()
		change(d)
		stands(t, what+" of the original: the clone", c, readied())
	}
}

// P3.4: two that grow behind one beginning don't write into one another's room.
func TestCloneGrowsApart(t *testing.T) {
	d := device(t, 8)
	for range 20 {
		fine(t, d.Append([]byte("ab")))
	}
	c := d.Clone()
	was := logOf(t, d)
	fine(t, d.Append([]byte("1")), c.Append([]byte("2")), d.Append([]byte("3")), c.Append([]byte("4")))
	if logOf(t, d) != was+"13" || logOf(t, c) != was+"24" {
		t.Errorf("got %q and %q", logOf(t, d), logOf(t, c))
	}
}

// P3.4
func TestNilDisk(t *testing.T) {
	var d *disk.Disk
	for range 2 {
		for what, call := range writing() {
			says(t, what, call(d), api.ErrNone)
		}
		says(t, "Cut below 0", d.Cut(-1), api.ErrNone)
		says(t, "Append of nothing", d.Append(nil), api.ErrNone)
		says(t, "Stage of nothing", d.Stage(nil), api.ErrNone)
		if b, e := d.Log(); len(b) != 0 || e != api.ErrNone {
			t.Errorf("Log: %q, %d", b, e)
		}
		if b, e := d.Image(); len(b) != 0 || e != api.ErrNone {
			t.Errorf("Image: %q, %d", b, e)
		}
		if !d.Off() || d.Used() != 0 || d.Room() != 0 || d.Clone() != nil {
			t.Errorf("Off %v, Used %d, Room %d, Clone %v", d.Off(), d.Used(), d.Room(), d.Clone())
		}
		d.Stop(0)
		d.Stop(-1)
		d.Crash(0)
		d.Crash(5)
	}
}
