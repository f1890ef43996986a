package disk_test

import (
	"math"
	"testing"

	"lamella/api"
	"lamella/disk"
)

// P3.3: of all but an Append that would be OK nothing is done at the call at which the power goes.
func TestStopAtTheNextCall(t *testing.T) {
	calls := writing()
	calls["Append of too much"] = func(d *disk.Disk) api.Errno { return d.Append(fill(5000)) }
	calls["Append of nothing"] = func(d *disk.Disk) api.Errno { return d.Append(nil) }
	calls["Stage of too much"] = func(d *disk.Disk) api.Errno { return d.Stage(fill(5000)) }
	calls["Stage of nothing"] = func(d *disk.Disk) api.Errno { return d.Stage(nil) }
	calls["Cut below 0"] = func(d *disk.Disk) api.Errno { return d.Cut(-1) }
	calls["Cut above all"] = func(d *disk.Disk) api.Errno { return d.Cut(5) }
	for what, call := range calls {
		d := ready(t)
		d.Stop(0)
		if d.Off() {
			t.Errorf("%s: the power is off ahead of it", what)
		}
		says(t, what, call(d), api.ErrTorn)
		want := readied()
		if what == "Append" {
			want.log += "xy"
		}
		want.off, want.staged, want.stage = true, false, ""
		stands(t, what, d, want)
		d.Crash(0)
		stands(t, what+", and back", d, whole{log: "ab", sure: 2, image: "image", used: 2, room: 8, goes: -1})
	}
}

// P3.3: a Commit with nothing staged is torn, too, where the power goes.
func TestStopAtCommitOfNothing(t *testing.T) {
	d := device(t, 2)
	d.Stop(0)
	says(t, "Commit", d.Commit(), api.ErrTorn)
	if !d.Off() {
		t.Error("the power is on")
	}
}

// P3.3: what an Append laid when the power went waits, so that a Crash keeps any beginning of it.
func TestStopAtAppend(t *testing.T) {
	for keep, want := range []string{"ab", "abc", "abcd", "abcdx", "abcdxy", "abcdxy", "abcdxy"} {
		d := ready(t)
		d.Stop(0)
		says(t, "Append", d.Append([]byte("xy")), api.ErrTorn)
		says(t, "Append while it is off", d.Append([]byte("zz")), api.ErrTorn)
		d.Crash(keep)
		stands(t, "behind the Crash", d, whole{log: want, sure: len(want), image: "image", used: 2, room: 8, goes: -1})
	}
}

// P3.3, P3.6: at the edge of the room an Append is laid, and one byte beyond it isn't.
func TestStopAtAppendThatIsFull(t *testing.T) {
	for _, c := range []struct {
		bytes int
		laid  bool
	}{{511, true}, {512, true}, {513, false}, {5000, false}} {
		d := taken(t, 3, 1, 1, 0)
		d.Stop(0)
		says(t, "Append", d.Append(fill(c.bytes)), api.ErrTorn)
		want := 2
		if c.laid {
			want = 3
		}
		if d.Used() != want || !d.Off() {
			t.Errorf("%d bytes: Used %d, want %d; Off %v", c.bytes, d.Used(), want, d.Off())
		}
		d.Crash(c.bytes)
		log := ""
		if c.laid {
			log = string(fill(c.bytes))
		}
		if logOf(t, d) != log {
			t.Errorf("%d bytes: %d are in the log", c.bytes, len(logOf(t, d)))
		}
	}
}

// P3.3: the calls ahead of it do what they do, and the stop is at the right one.
func TestStopLater(t *testing.T) {
	for n := range 6 {
		d := device(t, 4)
		d.Stop(n)
		for i := range n {
			says(t, "ahead", d.Append([]byte{byte('a' + i)}), api.OK)
			if d.Off() {
				t.Errorf("Stop(%d): off behind call %d", n, i)
			}
		}
		says(t, "the one", d.Sync(), api.ErrTorn)
		says(t, "behind it", d.Append([]byte("z")), api.ErrTorn)
		d.Crash(100)
		if got := logOf(t, d); got != "abcdef"[:n] {
			t.Errorf("Stop(%d): the log is %q", n, got)
		}
	}
}

// P3.3: each writing call counts one, whatever it answers; no other call does.
func TestWhatCounts(t *testing.T) {
	for _, c := range []struct {
		what string
		call func(d *disk.Disk) api.Errno
		says api.Errno
	}{
		{"Append", func(d *disk.Disk) api.Errno { return d.Append([]byte("e")) }, api.OK},
		{"Append of nothing", func(d *disk.Disk) api.Errno { return d.Append(nil) }, api.OK},
		{"Append of too much", func(d *disk.Disk) api.Errno { return d.Append(fill(5000)) }, api.ErrFull},
		{"Sync", func(d *disk.Disk) api.Errno { return d.Sync() }, api.OK},
		{"Cut", func(d *disk.Disk) api.Errno { return d.Cut(1) }, api.OK},
		{"Cut below 0", func(d *disk.Disk) api.Errno { return d.Cut(-1) }, api.ErrArg},
		{"Cut above all", func(d *disk.Disk) api.Errno { return d.Cut(100) }, api.ErrArg},
		{"Stage", func(d *disk.Disk) api.Errno { return d.Stage([]byte("e")) }, api.OK},
		{"Stage of nothing", func(d *disk.Disk) api.Errno { return d.Stage(nil) }, api.OK},
		{"Stage of too much", func(d *disk.Disk) api.Errno { return d.Stage(fill(5000)) }, api.ErrFull},
		{"Commit", func(d *disk.Disk) api.Errno { return d.Commit() }, api.OK},
	} {
		d := ready(t)
		d.Stop(2)
		says(t, c.what, c.call(d), c.says)
		says(t, "call 1 behind "+c.what, d.Sync(), api.OK)
		says(t, "call 2 behind "+c.what, d.Sync(), api.ErrTorn)
	}

	d := device(t, 2)
	d.Stop(2)
	says(t, "Commit of nothing", d.Commit(), api.ErrNone)
	says(t, "Commit of nothing", d.Commit(), api.ErrNone)
	says(t, "Commit of nothing", d.Commit(), api.ErrTorn)

	d = ready(t)
	d.Stop(1)
	for range 5 {
		d.Log()
		d.Image()
		d.Off()
		d.Used()
		d.Room()
		d.Clone().Sync()
	}
	says(t, "the next one", d.Sync(), api.OK)
	says(t, "the one", d.Sync(), api.ErrTorn)
}

// P3.3
func TestStopBelowNought(t *testing.T) {
	for _, n := range []int{-1, -2, -100, math.MinInt} {
		d := ready(t)
		d.Stop(n)
		for range 5 {
			says(t, "with none", d.Sync(), api.OK)
		}
		d.Stop(3)
		fine(t, d.Sync(), d.Sync())
		d.Stop(n)
		for range 5 {
			says(t, "with none any more", d.Sync(), api.OK)
		}
		d.Stop(0)
		d.Stop(n)
		says(t, "with none any more", d.Sync(), api.OK)
		d.Stop(0)
		says(t, "with one again", d.Sync(), api.ErrTorn)
	}
}

// P3.3
func TestStopInPlaceOfAnother(t *testing.T) {
	for _, c := range []struct{ first, second int }{{0, 2}, {1, 2}, {2, 2}, {5, 2}, {2, 0}, {math.MaxInt, 1}, {1, 9}} {
		d := device(t, 2)
		d.Stop(c.first)
		d.Stop(c.second)
		for range c.second {
			says(t, "ahead", d.Sync(), api.OK)
		}
		says(t, "the one", d.Sync(), api.ErrTorn)

		d = device(t, 2)
		d.Stop(c.first + 1)
		says(t, "ahead of the second", d.Sync(), api.OK)
		d.Stop(c.second)
		for range c.second {
			says(t, "behind the second", d.Sync(), api.OK)
		}
		says(t, "the one behind the second", d.Sync(), api.ErrTorn)
	}
	d := device(t, 2)
	d.Stop(math.MaxInt)
	for range 100 {
		says(t, "a Stop far off", d.Sync(), api.OK)
	}
}

// P3.3: a Stop is done with when the power has gone by it.
func TestStopOnce(t *testing.T) {
	d := device(t, 2)
	d.Stop(1)
	says(t, "ahead", d.Sync(), api.OK)
	says(t, "the one", d.Sync(), api.ErrTorn)
	d.Crash(0)
	for range 10 {
		says(t, "behind the Crash", d.Sync(), api.OK)
	}
}

// P3.3
func TestOff(t *testing.T) {
	d := ready(t)
	if d.Off() {
		t.Error("off at first")
	}
	d.Stop(0)
	if b, e := d.Log(); string(b) != "abcd" || e != api.OK || d.Off() {
		t.Errorf("Log with a Stop that holds: %q, %d", b, e)
	}
	says(t, "Stage", d.Stage(nil), api.ErrTorn)
	if !d.Off() {
		t.Error("on behind a Stop")
	}
	for range 2 {
		if b, e := d.Log(); len(b) != 0 || e != api.ErrTorn {
			t.Errorf("Log while it is off: %q, %d", b, e)
		}
		if b, e := d.Image(); len(b) != 0 || e != api.ErrTorn {
			t.Errorf("Image while it is off: %q, %d", b, e)
		}
	}
	d.Crash(0)
	if d.Off() {
		t.Error("off behind a Crash")
	}
}

// P3.3: calls that are refused for other causes leave the power on.
func TestOffByStopAlone(t *testing.T) {
	d := ready(t)
	says(t, "Append", d.Append(fill(5000)), api.ErrFull)
	says(t, "Cut", d.Cut(-1), api.ErrArg)
	fine(t, d.Commit())
	says(t, "Commit", d.Commit(), api.ErrNone)
	if d.Off() {
		t.Error("off")
	}
	says(t, "Sync", d.Sync(), api.OK)
}

// P3.3: ready's log is abcd, of which cd waits; with the power on, and with the power off.
func TestCrash(t *testing.T) {
	for _, c := range []struct {
		keep int
		log  string
	}{
		{math.MinInt, "ab"}, {-2, "ab"}, {-1, "ab"}, {0, "ab"}, {1, "abc"}, {2, "abcd"}, {3, "abcd"}, {100, "abcd"}, {math.MaxInt, "abcd"},
	} {
		want := whole{log: c.log, sure: len(c.log), image: "image", used: 2, room: 8, goes: -1}
		on := ready(t)
		on.Crash(c.keep)
		stands(t, "with the power on", on, want)
		off := ready(t)
		off.Stop(0)
		says(t, "Sync", off.Sync(), api.ErrTorn)
		off.Crash(c.keep)
		stands(t, "with the power off", off, want)
	}
}

// P3.3: a device with nothing that waits, or with nothing at all.
func TestCrashOfNothing(t *testing.T) {
	for _, keep := range []int{-1, 0, 1, 100} {
		d := device(t, 2)
		d.Crash(keep)
		stands(t, "a new device", d, whole{room: 2, goes: -1})
		fine(t, d.Append([]byte("ab")), d.Sync())
		d.Crash(keep)
		stands(t, "all is sure", d, whole{log: "ab", sure: 2, used: 1, room: 2, goes: -1})
		d.Crash(keep)
		stands(t, "once more", d, whole{log: "ab", sure: 2, used: 1, room: 2, goes: -1})
	}
}

// P3.3: what stays is sure, so a second Crash takes nothing; what comes behind it waits again.
func TestCrashMakesSure(t *testing.T) {
	d := ready(t)
	d.Crash(1)
	d.Crash(-1)
	stands(t, "a second Crash", d, whole{log: "abc", sure: 3, image: "image", used: 2, room: 8, goes: -1})
	fine(t, d.Append([]byte("xy")))
	stands(t, "an Append behind it", d, whole{log: "abcxy", sure: 3, image: "image", used: 2, room: 8, goes: -1})
	d.Crash(1)
	stands(t, "a third Crash", d, whole{log: "abcx", sure: 4, image: "image", used: 2, room: 8, goes: -1})
}

// P3.3
func TestCrashTakesTheStage(t *testing.T) {
	d := ready(t)
	d.Crash(100)
	says(t, "Commit", d.Commit(), api.ErrNone)
	fine(t, d.Stage(nil))
	d.Crash(100)
	says(t, "Commit of a stage of nothing", d.Commit(), api.ErrNone)
	stands(t, "behind both", d, whole{log: "abcd", sure: 4, image: "image", used: 2, room: 8, goes: -1})
}

// P3.3
func TestCrashEndsAStop(t *testing.T) {
	for n := range 3 {
		d := device(t, 2)
		d.Stop(n)
		d.Crash(0)
		for range 5 {
			says(t, "behind the Crash", d.Sync(), api.OK)
		}
		d.Stop(0)
		says(t, "the one", d.Sync(), api.ErrTorn)
		d.Stop(n)
		d.Crash(0)
		for range 5 {
			says(t, "a Stop while it was off", d.Sync(), api.OK)
		}
	}
}

// P3.3: a Stop with a Commit under way leaves the image and the log that were there, or, a call later, the new ones.
func TestStopBetweenStageAndCommit(t *testing.T) {
	for n, want := range []whole{
		{log: "abcd", sure: 4, image: "image", used: 2, room: 8, goes: -1},
		{log: "abcd", sure: 4, image: "image", used: 2, room: 8, goes: -1},
		{image: "other", used: 1, room: 8, goes: -1},
	} {
		d := ready(t)
		fine(t, d.Sync())
		d.Stop(n)
		d.Stage([]byte("other"))
		d.Commit()
		d.Sync()
		if !d.Off() {
			t.Errorf("Stop(%d): on", n)
		}
		d.Crash(0)
		stands(t, "behind the Crash", d, want)
	}
}
