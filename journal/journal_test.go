package journal_test

import (
	"strings"
	"testing"

	"lamella/api"
	"lamella/journal"
)

// P4.1
func TestOnTheDisk(t *testing.T) {
	d := device(t, 64)
	j := formatted(t, d, "s")
	lies(t, "behind Format", d, framed("s"), "")
	var records []string
	for _, r := range []string{"a", "", "bb", "", string(fill(600)), framed("within"), "\x00\xff"} {
		add(t, j, r)
		records = append(records, r)
		lies(t, "behind Add", d, framed("s"), framed(records...))
	}
	fine(t, j.Sync())
	lies(t, "behind Sync", d, framed("s"), framed(records...))
	fine(t, j.Save([]byte("next")))
	lies(t, "behind Save", d, framed("next"), "")
	add(t, j, "c")
	lies(t, "behind Add and Save", d, framed("next"), framed("c"))
	fine(t, j.Save(nil))
	lies(t, "behind Save of nothing", d, framed(""), "")
}

// P4.1: the bytes themselves, as chapter 1 lays them.
func TestBytesOnTheDisk(t *testing.T) {
	d := device(t, 4)
	j := formatted(t, d, "")
	add(t, j, "", "123456789")
	lies(t, "a frame of nothing", d, "\x00\x00\x00\x00\x1c\xdf\x44\x21", "\x00\x00\x00\x00\x1c\xdf\x44\x21"+framed("123456789"))
}

// P4.2
func TestFormat(t *testing.T) {
	for _, image := range []string{"", "s", "image", string(fill(600)), framed("s"), "\x00"} {
		d := device(t, 8)
		j := formatted(t, d, image)
		has(t, "a new journal", j, image)
		lies(t, "a new journal", d, framed(image), "")
		if j.Down() {
			t.Error("a new journal is down")
		}
		has(t, "Open of it", opened(t, d), image)
	}
	d := device(t, 8)
	j, e := journal.Format(d, nil)
	says(t, "Format of nil", e, api.OK)
	has(t, "Format of nil", j, "")
	lies(t, "Format of nil", d, framed(""), "")
}

// P4.2: whatever lies on the disk makes way.
func TestFormatOverAnother(t *testing.T) {
	d, j := made(t)
	fine(t, d.Stage([]byte("a stage")))
	k := formatted(t, d, "new")
	has(t, "the new one", k, "new")
	lies(t, "the new one", d, framed("new"), "")
	hasMade(t, "the old one", j)
	d.Crash(100)
	has(t, "behind a crash", opened(t, d), "new")

	d = laid(t, "any bytes", "of others")
	formatted(t, d, "new")
	lies(t, "over any bytes", d, framed("new"), "")
}

// P4.2, P4.4: just as many bytes as Frame takes, and one more.
func TestMost(t *testing.T) {
	most, more := fill(api.MaxText), fill(api.MaxText+1)
	d := device(t, 8000)
	j, e := journal.Format(d, more)
	refused(t, "Format of one more", api.ErrBig, j, e)
	lies(t, "behind it", d, "", "")
	j = formatted(t, d, string(most))
	says(t, "Add of one more", j.Add(more), api.ErrBig)
	has(t, "behind it", j, string(most))
	lies(t, "behind it", d, framed(string(most)), "")
	says(t, "Add of just all", j.Add(most), api.OK)
	says(t, "Save of one more", j.Save(more), api.ErrBig)
	has(t, "behind it", j, string(most), string(most))
	has(t, "Open of it", opened(t, d), string(most), string(most))
	most[0]++
	says(t, "Save of just all", j.Save(most), api.OK)
	has(t, "behind it", j, string(most))
	has(t, "Open of it", opened(t, d), string(most))
	if j.Down() {
		t.Error("down")
	}
}

// P4.2: what is too big is told first, and no call of the disk is made.
func TestFormatTooBig(t *testing.T) {
	more := fill(api.MaxText + 1)
	j, e := journal.Format(nil, more)
	refused(t, "a nil disk", api.ErrBig, j, e)
	small := device(t, 1)
	j, e = journal.Format(small, more)
	refused(t, "a small disk", api.ErrBig, j, e)
	d, _ := made(t)
	d.Stop(0)
	j, e = journal.Format(d, more)
	refused(t, "a disk with a Stop", api.ErrBig, j, e)
	liesMade(t, "behind it", d)
	says(t, "the next call", d.Sync(), api.ErrTorn)
	j, e = journal.Format(d, more)
	refused(t, "a disk that is off", api.ErrBig, j, e)
}

// P4.2
func TestFormatOfNoDisk(t *testing.T) {
	for _, image := range [][]byte{nil, []byte("s"), fill(5000)} {
		j, e := journal.Format(nil, image)
		refused(t, "a nil disk", api.ErrNone, j, e)
		d, _ := made(t)
		d.Stop(0)
		says(t, "Sync", d.Sync(), api.ErrTorn)
		j, e = journal.Format(d, image)
		refused(t, "a disk that is off", api.ErrTorn, j, e)
		d.Crash(100)
		liesMade(t, "behind it", d)
	}
}

// P4.2: the frame has 8 bytes beside the image's; what lies there has its room till the new one is committed.
func TestFormatFull(t *testing.T) {
	for _, c := range []struct {
		room, image, log int
		fits             int // bytes of an image, and not one more
	}{
		{1, 0, 0, 504}, {2, 0, 0, 1016}, {2, 1, 0, 504}, {2, 0, 512, 504}, {3, 512, 1, 504}, {3, 1, 0, 1016}, {4, 513, 1, 504},
	} {
		d := device(t, c.room)
		fine(t, d.Stage(fill(c.image)), d.Commit(), d.Append(fill(c.log)), d.Sync())
		j, e := journal.Format(d, fill(c.fits+1))
		refused(t, "one more", api.ErrFull, j, e)
		lies(t, "behind it", d, string(fill(c.image)), string(fill(c.log)))
		if d.Off() {
			t.Error("off behind ErrFull")
		}
		image := string(fill(c.fits))
		has(t, "just all", formatted(t, d, image), image)
		lies(t, "just all", d, framed(image), "")
	}
	d := device(t, 1)
	formatted(t, d, "s")
	j, e := journal.Format(d, nil)
	refused(t, "no room beside the old image", api.ErrFull, j, e)
	lies(t, "behind it", d, framed("s"), "")
}

// P4.2: Format's calls are Stage and Commit; at which of them the power goes doesn't matter.
func TestFormatTorn(t *testing.T) {
	for n := range 2 {
		for _, keep := range []int{0, 100} {
			d, old := made(t)
			d.Stop(n)
			j, e := journal.Format(d, []byte("new"))
			refused(t, "the power goes", api.ErrTorn, j, e)
			if !d.Off() || old.Down() {
				t.Errorf("call %d: Off %v, the old one's Down %v", n, d.Off(), old.Down())
			}
			d.Crash(keep)
			want := []string{"a", "", "ccc"}
			if keep == 0 {
				want = want[:2]
			}
			has(t, "what lay there", opened(t, d), "image", want...)

			d = device(t, 4)
			d.Stop(n)
			j, e = journal.Format(d, []byte("new"))
			refused(t, "the power goes", api.ErrTorn, j, e)
			d.Crash(keep)
			j, e = journal.Open(d)
			refused(t, "nothing lay there", api.ErrNone, j, e)
		}
	}
	d := device(t, 4)
	d.Stop(2)
	j := formatted(t, d, "new")
	says(t, "the call behind", j.Sync(), api.ErrTorn)
	d.Crash(0)
	has(t, "it was sure", opened(t, d), "new")
}

// P4.2: an image that is too great doesn't hide that the power goes at it.
func TestFormatTornAndFull(t *testing.T) {
	d := device(t, 1)
	d.Stop(0)
	j, e := journal.Format(d, fill(600))
	refused(t, "torn and full", api.ErrTorn, j, e)
}

// P4.3
func TestWhatItTells(t *testing.T) {
	d, j := made(t)
	for range 2 {
		hasMade(t, "made", j)
	}
	liesMade(t, "behind them", d)
	if j.Size() != 9+8+11 || j.Count() != 3 {
		t.Errorf("Size %d, Count %d", j.Size(), j.Count())
	}
	k := opened(t, d)
	hasMade(t, "opened", k)
	long := strings.Repeat("x", 300)
	add(t, k, long)
	if k.Size() != 28+308 || k.Count() != 4 {
		t.Errorf("Size %d, Count %d", k.Size(), k.Count())
	}
	fine(t, k.Save(nil))
	if k.Size() != 0 || k.Count() != 0 || len(k.Records()) != 0 || len(k.Image()) != 0 {
		t.Errorf("Size %d, Count %d, %d records, %d bytes", k.Size(), k.Count(), len(k.Records()), len(k.Image()))
	}
}

// P4.3: who changes an answer changes neither the journal nor another answer.
func TestAnswersAreCopies(t *testing.T) {
	d, first := made(t)
	for what, j := range map[string]*journal.Journal{"formatted": first, "opened": opened(t, d)} {
		spoil(j.Image())
		l := j.Records()
		for i := range l {
			was := texts(l[i+1:])
			spoil(l[i])
			if got := texts(l[i+1:]); strings.Join(got, "|") != strings.Join(was, "|") {
				t.Errorf("%s: records share memory", what)
			}
		}
		l[0], l[1] = []byte("other"), nil
		_ = append(l[:1], []byte("more"))
		hasMade(t, what+": behind answers that are spoilt", j)
		liesMade(t, what+": behind answers that are spoilt", d)

		image, records := j.Image(), j.Records()
		add(t, opened(t, d.Clone()), "elsewhere")
		hasMade(t, what+": behind another's Add", j)
		if string(image) != "image" || strings.Join(texts(records), "|") != "a||ccc" {
			t.Errorf("%s: answers that changed: %q, %q", what, image, records)
		}
	}
}

// P4.3: an answer stays what it was, whatever the journal does behind it.
func TestAnswersStay(t *testing.T) {
	_, j := made(t)
	image, records := j.Image(), j.Records()
	add(t, j, "d", "e")
	fine(t, j.Save([]byte("other")))
	add(t, j, "x", "y", "z")
	if string(image) != "image" || strings.Join(texts(records), "|") != "a||ccc" {
		t.Errorf("answers that changed: %q, %q", image, records)
	}
}

// P4.2, P4.4, rule 4: bytes that are handed in are neither changed nor kept.
func TestArguments(t *testing.T) {
	d := device(t, 16)
	image, imageStays := roomy("image")
	j, e := journal.Format(d, image)
	fine(t, e)
	record, recordStays := roomy("record")
	fine(t, j.Add(record), j.Add(record), j.Add([]byte("end")))
	if !imageStays() || !recordStays() {
		t.Error("what was handed in was changed")
	}
	spoil(image)
	spoil(record)
	has(t, "bytes spoilt behind it", j, "image", "record", "record", "end")
	lies(t, "bytes spoilt behind it", d, framed("image"), framed("record", "record", "end"))

	next, nextStays := roomy("next")
	fine(t, j.Save(next), j.Add(next))
	if !nextStays() {
		t.Error("what was handed in was changed")
	}
	spoil(next)
	has(t, "bytes spoilt behind Save", j, "next", "next")
	lies(t, "bytes spoilt behind Save", d, framed("next"), framed("next"))
}

// P4.4
func TestNilJournal(t *testing.T) {
	var j *journal.Journal
	for range 2 {
		has(t, "nil", j, "")
		if !j.Down() {
			t.Error("a nil journal is not down")
		}
		for _, b := range [][]byte{nil, []byte("a"), fill(api.MaxText + 1)} {
			says(t, "Add", j.Add(b), api.ErrNone)
			says(t, "Save", j.Save(b), api.ErrNone)
		}
		says(t, "Sync", j.Sync(), api.ErrNone)
	}
}

// Rule 6: journals on other disks have nothing to do with one another.
func TestJournalsAreApart(t *testing.T) {
	d, j := made(t)
	other := device(t, 8)
	k := formatted(t, other, "other")
	add(t, k, "x")
	other.Stop(0)
	says(t, "Sync", k.Sync(), api.ErrTorn)
	hasMade(t, "the first", j)
	liesMade(t, "the first", d)
	if j.Down() || !k.Down() {
		t.Errorf("Down: %v, %v", j.Down(), k.Down())
	}
	add(t, j, "d")
	has(t, "the second", k, "other", "x")
}

// Chapter 4's example.
func TestExample(t *testing.T) {
	d := device(t, 10)
	j := formatted(t, d, "s")
	add(t, j, "a")
	fine(t, j.Sync())
	add(t, j, "bb")
	d.Crash(3)
	has(t, "Open", opened(t, d), "s", "a")
}
