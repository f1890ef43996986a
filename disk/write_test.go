package disk_test

import (
	"math"
	"testing"

	"lamella/api"
	"lamella/disk"
)

// P3.2
func TestAppend(t *testing.T) {
	d := device(t, 4)
	fine(t, d.Append([]byte("ab")))
	stands(t, "one", d, whole{log: "ab", used: 1, room: 4, goes: -1})
	fine(t, d.Append([]byte("cde")))
	stands(t, "two", d, whole{log: "abcde", used: 1, room: 4, goes: -1})
	fine(t, d.Append(nil), d.Append([]byte{}))
	stands(t, "two and nothing", d, whole{log: "abcde", used: 1, room: 4, goes: -1})
	fine(t, d.Append(fill(1000)))
	stands(t, "three", d, whole{log: "abcde" + string(fill(1000)), used: 2, room: 4, goes: -1})
}

// P3.2: what is appended waits, also behind what is sure.
func TestAppendWaits(t *testing.T) {
	d := device(t, 4)
	fine(t, d.Append([]byte("ab")), d.Sync(), d.Append([]byte("cd")))
	stands(t, "behind a Sync", d, whole{log: "abcd", sure: 2, used: 1, room: 4, goes: -1})
}

// taken answers a device whose image, stage and log have so many bytes.
func taken(t *testing.T, room, image, stage, log int) *disk.Disk {
	t.Helper()
	d := device(t, room)
	fine(t, d.Stage(fill(image)), d.Commit(), d.Append(fill(log)))
	if stage > 0 {
		fine(t, d.Stage(fill(stage)))
	}
	return d
}

// P3.2, P3.6: the edge is where all sectors are just taken.
func TestAppendFull(t *testing.T) {
	for _, c := range []struct {
		room, image, stage, log int
		fits                    int // bytes, and not one more
	}{
		{1, 0, 0, 0, 512},
		{2, 0, 0, 0, 1024},
		{2, 0, 0, 600, 424},
		{2, 0, 0, 512, 512},
		{2, 0, 0, 1024, 0},
		{2, 1, 0, 0, 512},
		{2, 512, 0, 0, 512},
		{2, 0, 1, 0, 512},
		{2, 1, 1, 0, 0},
		{2, 512, 512, 0, 0},
		{3, 513, 0, 0, 512},
		{3, 513, 0, 511, 1},
		{3, 0, 513, 0, 512},
		{3, 1, 1, 1, 511},
		{3, 1, 1, 512, 0},
		{9, 1000, 600, 700, 5*512 - 700},
		{api.MaxRoom, 0, 0, 0, api.MaxRoom * 512},
		{api.MaxRoom, 5, 6, 7, (api.MaxRoom-2)*512 - 7},
	} {
		d := taken(t, c.room, c.image, c.stage, c.log)
		was := look(t, d)
		says(t, "one too many", d.Append(fill(c.fits+1)), api.ErrFull)
		says(t, "many too many", d.Append(fill(c.fits+5000)), api.ErrFull)
		stands(t, "behind what was refused", d, was)
		says(t, "just all", d.Append(fill(c.fits)), api.OK)
		says(t, "nothing", d.Append(nil), api.OK)
		was.log += string(fill(c.fits))
		was.used = (c.image+511)/512 + (c.stage+511)/512 + (len(was.log)+511)/512
		stands(t, "behind what fits", d, was)
		if d.Used() > d.Room() || c.fits > 0 && d.Used() != d.Room() {
			t.Errorf("%+v: Used %d", c, d.Used())
		}
		says(t, "one more", d.Append(fill(1)), api.ErrFull)
	}
}

// P3.2: room that is free again is room.
func TestAppendIntoFreedRoom(t *testing.T) {
	d := taken(t, 2, 0, 512, 512)
	says(t, "full", d.Append(fill(1)), api.ErrFull)
	fine(t, d.Stage(nil))
	says(t, "behind a Stage of nothing", d.Append(fill(512)), api.OK)
	fine(t, d.Cut(1000))
	says(t, "behind a Cut", d.Append(fill(24)), api.OK)
	says(t, "full again", d.Append(fill(1)), api.ErrFull)
	d.Crash(512)
	says(t, "behind a Crash", d.Append(fill(512)), api.OK)
	fine(t, d.Stage(nil), d.Commit())
	says(t, "behind a Commit", d.Append(fill(1024)), api.OK)
}

// P3.2
func TestSync(t *testing.T) {
	d := device(t, 4)
	says(t, "of nothing", d.Sync(), api.OK)
	stands(t, "nothing", d, whole{room: 4, goes: -1})
	fine(t, d.Append([]byte("ab")), d.Append([]byte("cd")), d.Sync())
	stands(t, "all", d, whole{log: "abcd", sure: 4, used: 1, room: 4, goes: -1})
	says(t, "again", d.Sync(), api.OK)
	stands(t, "all still", d, whole{log: "abcd", sure: 4, used: 1, room: 4, goes: -1})

	d = ready(t)
	fine(t, d.Sync())
	want := readied()
	want.sure = 4
	stands(t, "image and stage stay", d, want)
}

// P3.2: ready's log is abcd, of which ab is sure.
func TestCut(t *testing.T) {
	for _, c := range []struct {
		n    int
		log  string
		sure int
	}{
		{0, "", 0}, {1, "a", 1}, {2, "ab", 2}, {3, "abc", 2}, {4, "abcd", 2},
	} {
		d := ready(t)
		says(t, "Cut", d.Cut(c.n), api.OK)
		want := readied()
		want.log, want.sure = c.log, c.sure
		want.used = 2 + min(1, len(c.log))
		stands(t, "behind a Cut", d, want)
	}
	for _, n := range []int{-1, -100, math.MinInt, 5, 6, 512, math.MaxInt} {
		d := ready(t)
		says(t, "Cut", d.Cut(n), api.ErrArg)
		stands(t, "behind a Cut that is refused", d, readied())
	}
	d := device(t, 1)
	says(t, "of nothing", d.Cut(0), api.OK)
	says(t, "of nothing, below", d.Cut(-1), api.ErrArg)
	says(t, "of nothing, above", d.Cut(1), api.ErrArg)
}

// P3.2: what comes behind a Cut waits, also where something stood that was sure.
func TestAppendBehindCut(t *testing.T) {
	d := device(t, 4)
	fine(t, d.Append([]byte("abcdef")), d.Sync(), d.Cut(2), d.Append([]byte("xyz")))
	stands(t, "behind a Cut of what was sure", d, whole{log: "abxyz", sure: 2, used: 1, room: 4, goes: -1})
	fine(t, d.Cut(4))
	stands(t, "behind a Cut of what waits", d, whole{log: "abxy", sure: 2, used: 1, room: 4, goes: -1})
	fine(t, d.Sync())
	stands(t, "behind a Sync", d, whole{log: "abxy", sure: 4, used: 1, room: 4, goes: -1})
}

// P3.2
func TestStage(t *testing.T) {
	d := device(t, 4)
	fine(t, d.Append([]byte("ab")), d.Sync(), d.Append([]byte("c")))
	fine(t, d.Stage([]byte("one")))
	want := whole{log: "abc", sure: 2, stage: "one", staged: true, used: 2, room: 4, goes: -1}
	stands(t, "one", d, want)
	fine(t, d.Stage([]byte("2")))
	want.stage = "2"
	stands(t, "in its place", d, want)
	fine(t, d.Stage(fill(600)))
	want.stage, want.used = string(fill(600)), 3
	stands(t, "a greater one", d, want)
	fine(t, d.Stage([]byte{}))
	want.stage, want.used = "", 1
	stands(t, "of nothing", d, want)
}

// P3.2, P3.6: what was staged ahead makes way, so it isn't counted.
func TestStageFull(t *testing.T) {
	for _, c := range []struct {
		room, image, stage, log int
		fits                    int // bytes, and not one more
	}{
		{1, 0, 0, 0, 512},
		{1, 0, 512, 0, 512},
		{1, 512, 0, 0, 0},
		{1, 0, 0, 512, 0},
		{2, 0, 0, 600, 0},
		{2, 0, 0, 512, 512},
		{2, 0, 1, 512, 512},
		{2, 0, 1024, 0, 1024},
		{2, 1, 0, 0, 512},
		{2, 1, 512, 0, 512},
		{2, 512, 0, 512, 0},
		{3, 512, 512, 512, 512},
		{3, 513, 0, 0, 512},
		{3, 0, 0, 513, 512},
		{9, 1000, 600, 700, 5 * 512},
		{api.MaxRoom, 0, 0, 0, api.MaxRoom * 512},
		{api.MaxRoom, 5, 6, 7, (api.MaxRoom - 2) * 512},
	} {
		d := taken(t, c.room, c.image, c.stage, c.log)
		was := look(t, d)
		says(t, "one too many", d.Stage(fill(c.fits+1)), api.ErrFull)
		says(t, "many too many", d.Stage(fill(c.fits+5000)), api.ErrFull)
		stands(t, "behind what was refused", d, was)
		says(t, "just all", d.Stage(fill(c.fits)), api.OK)
		was.stage, was.staged = string(fill(c.fits)), true
		was.used = (c.image+511)/512 + (c.fits+511)/512 + (c.log+511)/512
		stands(t, "behind what fits", d, was)
		if d.Used() > d.Room() || c.fits > 0 && d.Used() != d.Room() {
			t.Errorf("%+v: Used %d", c, d.Used())
		}
		says(t, "in its place", d.Stage(fill(c.fits)), api.OK)
		says(t, "nothing", d.Stage(nil), api.OK)
	}
}

// P3.2
func TestCommit(t *testing.T) {
	d := ready(t)
	says(t, "Commit", d.Commit(), api.OK)
	stands(t, "behind it", d, whole{image: "stage", used: 1, room: 8, goes: -1})
	says(t, "with nothing staged", d.Commit(), api.ErrNone)
	stands(t, "behind what was refused", d, whole{image: "stage", used: 1, room: 8, goes: -1})
	fine(t, d.Append([]byte("e")), d.Sync())
	says(t, "with nothing staged", d.Commit(), api.ErrNone)
	stands(t, "behind what was refused", d, whole{log: "e", sure: 1, image: "stage", used: 2, room: 8, goes: -1})
	says(t, "of a new device", device(t, 1).Commit(), api.ErrNone)
}

// P3.2: the last stage alone is the image, be it of nothing.
func TestCommitOfTheLastStage(t *testing.T) {
	d := ready(t)
	fine(t, d.Stage([]byte("first")), d.Stage([]byte("2nd")), d.Commit())
	stands(t, "two stages", d, whole{image: "2nd", used: 1, room: 8, goes: -1})
	fine(t, d.Append([]byte("e")), d.Stage(nil), d.Commit())
	stands(t, "a stage of nothing", d, whole{room: 8, goes: -1})
	says(t, "once more", d.Commit(), api.ErrNone)
	fine(t, d.Stage([]byte("third")), d.Stage([]byte{}), d.Commit())
	stands(t, "a stage of nothing in another's place", d, whole{room: 8, goes: -1})
	fine(t, d.Stage([]byte("fourth")))
	says(t, "too much", d.Stage(fill(8*512+1)), api.ErrFull)
	fine(t, d.Commit())
	stands(t, "behind a stage that was refused", d, whole{image: "fourth", used: 1, room: 8, goes: -1})
}

// P3.2: it is sure that the image is this one, and that there is no log.
func TestCommitIsSure(t *testing.T) {
	d := ready(t)
	fine(t, d.Commit())
	d.Crash(100)
	stands(t, "behind a Crash", d, whole{image: "stage", used: 1, room: 8, goes: -1})
	fine(t, d.Append([]byte("e")))
	stands(t, "a log behind it waits", d, whole{log: "e", image: "stage", used: 2, room: 8, goes: -1})
}

// P3.2: while the power is off, nothing is done, whatever the call would be.
func TestWritingWhileOff(t *testing.T) {
	calls := writing()
	calls["Append of too much"] = func(d *disk.Disk) api.Errno { return d.Append(fill(5000)) }
	calls["Append of nothing"] = func(d *disk.Disk) api.Errno { return d.Append(nil) }
	calls["Stage of too much"] = func(d *disk.Disk) api.Errno { return d.Stage(fill(5000)) }
	calls["Stage of nothing"] = func(d *disk.Disk) api.Errno { return d.Stage(nil) }
	calls["Cut below 0"] = func(d *disk.Disk) api.Errno { return d.Cut(-1) }
	calls["Cut above all"] = func(d *disk.Disk) api.Errno { return d.Cut(100) }
	calls["Cut of all"] = func(d *disk.Disk) api.Errno { return d.Cut(0) }
	for what, call := range calls {
		d := ready(t)
		d.Stop(0)
		says(t, "the call at which it goes", d.Sync(), api.ErrTorn)
		was := look(t, d)
		for range 3 {
			says(t, what, call(d), api.ErrTorn)
			stands(t, what, d, was)
		}
		d.Stop(-1)
		says(t, what+" behind a Stop below 0", call(d), api.ErrTorn)
		if !d.Off() {
			t.Errorf("%s: a Stop below 0 brought the power back", what)
		}
	}
	d := device(t, 1)
	d.Stop(0)
	says(t, "Sync", d.Sync(), api.ErrTorn)
	says(t, "Commit with nothing staged", d.Commit(), api.ErrTorn)
}

// P3.2, rule 4: bytes that are handed in are neither changed nor kept.
func TestArguments(t *testing.T) {
	for what, call := range map[string]func(d *disk.Disk, b []byte) api.Errno{
		"Append": (*disk.Disk).Append,
		"Stage":  (*disk.Disk).Stage,
	} {
		d := device(t, 8)
		fine(t, d.Append([]byte("ab")))
		b, untouched := roomy([]byte("data"))
		says(t, what, call(d, b), api.OK)
		fine(t, d.Append([]byte("more")), d.Append(fill(600)), d.Cut(3), d.Append([]byte("more")))
		was := look(t, d)
		if !untouched() {
			t.Errorf("%s changed what was handed in", what)
		}
		spoil(b)
		stands(t, what+": bytes spoilt behind it", d, was)
		fine(t, d.Stage([]byte("next")), d.Commit(), d.Append([]byte("log")), d.Stage([]byte("last")))
		spoil(b)
		if !untouched() {
			t.Errorf("%s changed what was handed in, later", what)
		}
	}
}

// P3.2, rule 4: what becomes the image isn't the caller's memory, nor is the first that the log gets.
func TestImageIsApart(t *testing.T) {
	d := device(t, 8)
	b, untouched := roomy([]byte("image"))
	fine(t, d.Stage(b), d.Commit(), d.Append(b), d.Append([]byte("1")), d.Stage([]byte("s")), d.Stage([]byte("t")))
	if !untouched() {
		t.Error("what was handed in was changed")
	}
	spoil(b)
	stands(t, "bytes spoilt behind it", d, whole{log: "image1", image: "image", stage: "t", staged: true, used: 3, room: 8, goes: -1})
}

// Chapter 3's example.
func TestExample(t *testing.T) {
	d := device(t, 2)
	says(t, "Append of 600 bytes", d.Append(fill(600)), api.OK)
	says(t, "Stage of one byte", d.Stage([]byte("s")), api.ErrFull)
	d = device(t, 2)
	fine(t, d.Append([]byte("ab")), d.Sync(), d.Append([]byte("cd")))
	d.Crash(1)
	if got := logOf(t, d); got != "abc" {
		t.Errorf("the log is %q", got)
	}
}
