package disk_test

import (
	"bytes"
	"math/rand"
	"testing"

	"lamella/api"
	"lamella/disk"
)

// device is a new one of so many sectors.
func device(t *testing.T, room int) *disk.Disk {
	t.Helper()
	d, e := disk.New(room)
	if d == nil || e != api.OK {
		t.Fatalf("New(%d): %v, %d", room, d, e)
	}
	return d
}

// fill is n bytes that tell their places apart.
func fill(n int) []byte {
	b := make([]byte, n)
	for i := range b {
		b[i] = byte(i*7 + i/256)
	}
	return b
}

// says checks what a call answered.
func says(t *testing.T, what string, got, want api.Errno) {
	t.Helper()
	if got != want {
		t.Errorf("%s: got error %d, want %d", what, got, want)
	}
}

// fine is says for what can't fail, so that the test need not go on.
func fine(t *testing.T, errors ...api.Errno) {
	t.Helper()
	for i, e := range errors {
		if e != api.OK {
			t.Fatalf("call %d: error %d", i, e)
		}
	}
}

// whole is all that can be told of a device: the log, how much of it is sure, the image, what is staged, and the power.
type whole struct {
	log    string
	sure   int
	image  string
	stage  string
	staged bool
	off    bool
	used   int
	room   int
	goes   int // writing calls till the one at which the power goes, below 0: none of the next ones
}

// far is how many calls a look goes on for a Stop.
const far = 12

// look takes a device apart by its clones, so that it stays as it is.
func look(t *testing.T, d *disk.Disk) whole {
	t.Helper()
	w := whole{off: d.Off(), used: d.Used(), room: d.Room(), goes: goes(d)}
	kept, bare := d.Clone(), d.Clone()
	kept.Crash(1 << 40)
	bare.Crash(0)
	w.log, w.sure, w.image = logOf(t, kept), len(logOf(t, bare)), imageOf(t, kept)
	w.stage, w.staged = stageOf(t, d)
	return w
}

// goes is how many Syncs are OK ahead of the one at which the power goes.
func goes(d *disk.Disk) int {
	c := d.Clone()
	if c.Off() {
		return -1
	}
	for n := range far {
		if c.Sync() == api.ErrTorn {
			return n
		}
	}
	return -1
}

// stageOf commits what is staged on a clone. While the power is off nobody can reach it.
func stageOf(t *testing.T, d *disk.Disk) (string, bool) {
	t.Helper()
	c := d.Clone()
	c.Stop(-1)
	if c.Commit() != api.OK {
		return "", false
	}
	return imageOf(t, c), true
}

func logOf(t *testing.T, d *disk.Disk) string {
	t.Helper()
	b, e := d.Log()
	says(t, "Log", e, api.OK)
	return string(b)
}

func imageOf(t *testing.T, d *disk.Disk) string {
	t.Helper()
	b, e := d.Image()
	says(t, "Image", e, api.OK)
	return string(b)
}

// stands checks all that can be told of a device.
func stands(t *testing.T, what string, d *disk.Disk, want whole) {
	t.Helper()
	if got := look(t, d); got != want {
		t.Errorf("%s:\ngot  %+v\nwant %+v", what, short(got), short(want))
	}
}

// short leaves out of long texts what nobody reads.
func short(w whole) whole {
	cut := func(s string) string {
		if len(s) <= 40 {
			return s
		}
		return s[:40] + ".."
	}
	w.log, w.image, w.stage = cut(w.log), cut(w.image), cut(w.stage)
	return w
}

// dice are the same in each run.
func dice() *rand.Rand { return rand.New(rand.NewSource(3)) }

// roomy answers b in front of bytes that nobody may touch, and whether they, and b, are still as they were.
func roomy(b []byte) (arg []byte, untouched func() bool) {
	all := append(bytes.Clone(b), "behind"...)
	was := bytes.Clone(all)
	return all[:len(b)], func() bool { return bytes.Equal(all, was) }
}

// spoil changes all bytes that b reaches, its spare room included.
func spoil(b []byte) {
	for i := range b[:cap(b)] {
		b[:cap(b)][i] ^= 0xff
	}
}

// writing are the writing calls, each so that it would be OK on the device that ready answers.
func writing() map[string]func(d *disk.Disk) api.Errno {
	return map[string]func(d *disk.Disk) api.Errno{
		"Append": func(d *disk.Disk) api.Errno { return d.Append([]byte("xy")) },
		"Sync":   func(d *disk.Disk) api.Errno { return d.Sync() },
		"Cut":    func(d *disk.Disk) api.Errno { return d.Cut(1) },
		"Stage":  func(d *disk.Disk) api.Errno { return d.Stage([]byte("other")) },
		"Commit": func(d *disk.Disk) api.Errno { return d.Commit() },
	}
}

// ready is a device of 8 sectors with the image "image", the stage "stage", and the log "abcd", of which "ab" is sure.
func ready(t *testing.T) *disk.Disk {
	t.Helper()
	d := device(t, 8)
	fine(t, d.Stage([]byte("image")), d.Commit(), d.Append([]byte("ab")), d.Sync(), d.Append([]byte("cd")), d.Stage([]byte("stage")))
	return d
}

// readied is what there is of ready's device.
func readied() whole {
	return whole{log: "abcd", sure: 2, image: "image", stage: "stage", staged: true, used: 3, room: 8, goes: -1}
}
