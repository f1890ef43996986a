package journal_test

import (
	"testing"

	"lamella/api"
	"lamella/disk"
	"lamella/journal"
)

// opens checks that Open refuses a disk, and leaves what lies there.
func opens(t *testing.T, what, image, log string, want api.Errno) {
	t.Helper()
	d := laid(t, image, log)
	for range 2 {
		j, e := journal.Open(d)
		refused(t, what, want, j, e)
		lies(t, what, d, image, log)
	}
}

// P4.2
func TestOpen(t *testing.T) {
	for _, c := range []struct {
		image   string
		records []string
	}{
		{"", nil},
		{"s", nil},
		{"", []string{""}},
		{"s", []string{"a"}},
		{"s", []string{"", "", ""}},
		{string(fill(700)), []string{"a", string(fill(2000)), "", "b"}},
		{framed("s"), []string{framed("a", "b"), framed("")}},
	} {
		d := laid(t, framed(c.image), framed(c.records...))
		j := opened(t, d)
		has(t, "opened", j, c.image, c.records...)
		if j.Down() {
			t.Error("an opened journal is down")
		}
		lies(t, "opened", d, framed(c.image), framed(c.records...))
		has(t, "opened again", opened(t, d), c.image, c.records...)
	}
}

// P4.2: an opened journal goes on where the other was.
func TestOpenGoesOn(t *testing.T) {
	d, _ := made(t)
	j := opened(t, d)
	add(t, j, "d")
	has(t, "behind Add", j, "image", "a", "", "ccc", "d")
	fine(t, j.Sync())
	d.Crash(0)
	j = opened(t, d)
	has(t, "opened again", j, "image", "a", "", "ccc", "d")
	fine(t, j.Save([]byte("next")))
	add(t, j, "e")
	d.Crash(100)
	has(t, "behind Save", opened(t, d), "next", "e")
}

// P4.2
func TestOpenOfNoDisk(t *testing.T) {
	j, e := journal.Open(nil)
	refused(t, "a nil disk", api.ErrNone, j, e)
	for _, d := range []*disk.Disk{device(t, 4), laid(t, framed("s"), framed("a")), laid(t, "x", "y"), laid(t, "", "y")} {
		d.Stop(0)
		says(t, "Sync", d.Sync(), api.ErrTorn)
		for range 2 {
			j, e = journal.Open(d)
			refused(t, "a disk that is off", api.ErrTorn, j, e)
		}
	}
}

// P4.2
func TestOpenOfNoImage(t *testing.T) {
	opens(t, "a new disk", "", "", api.ErrNone)
	opens(t, "records without an image", "", framed("a"), api.ErrNone)
	opens(t, "a torn record without an image", "", framed("a")[:5], api.ErrNone)
	opens(t, "a false record without an image", "", flip(framed("a"), 40), api.ErrNone)
}

// P4.2
func TestOpenOfAnImageThatIsNone(t *testing.T) {
	for _, s := range []string{"", "s", "image", framed("s")} {
		whole := framed(s)
		for k := 1; k < len(whole); k++ {
			opens(t, "a beginning of a frame", whole[:k], framed("a"), api.ErrCode)
		}
		for _, more := range []string{"\x00", "x", "any bytes", whole, framed(""), whole[:3], flip(whole, 32)} {
			opens(t, "something behind the frame", whole+more, "", api.ErrCode)
		}
	}
	opens(t, "a length above MaxText", "\x01\x00\x10\x00"+string(fill(api.MaxText+5)), "", api.ErrCode)
	opens(t, "a length of all ones", "\xff\xff\xff\xff\x00\x00\x00\x00", "", api.ErrCode)
}

// P4.2
func TestOpenOfAnImageWithAFalseSum(t *testing.T) {
	for _, s := range []string{"", "s", "image"} {
		whole := framed(s)
		for bit := 32; bit < 8*len(whole); bit++ {
			opens(t, "a bit turned", flip(whole, bit), framed("a"), api.ErrSum)
			opens(t, "a bit turned, something behind", flip(whole, bit)+"x", "", api.ErrSum)
		}
	}
	opens(t, "noughts", "\x00\x00\x00\x00\x00\x00\x00\x00", "", api.ErrSum)
}

// P4.2: what is told of the image comes first, and then nothing is cut off the log.
func TestOpenTellsTheImageFirst(t *testing.T) {
	for _, log := range []string{framed("a"), framed("a")[:5], flip(framed("a"), 40), "any"} {
		opens(t, "a torn image", framed("s")[:6], log, api.ErrCode)
		opens(t, "something behind the image", framed("s")+"x", log, api.ErrCode)
		opens(t, "an image with a false sum", flip(framed("s"), 33), log, api.ErrSum)
		d := laid(t, framed("s")[:6], log)
		d.Stop(0)
		j, e := journal.Open(d)
		refused(t, "a torn image and a Stop", api.ErrCode, j, e)
		if d.Off() {
			t.Error("a writing call was made")
		}
	}
}

// P4.2: the last record is torn at each of its bytes.
func TestOpenOfATornLog(t *testing.T) {
	for _, ahead := range [][]string{nil, {"a"}, {"a", ""}, {"", "bb", string(fill(600))}} {
		for _, last := range []string{"", "c", "last", string(fill(530))} {
			whole := framed(last)
			for k := 1; k < len(whole); k++ {
				d := laid(t, framed("s"), framed(ahead...)+whole[:k])
				j := opened(t, d)
				has(t, "torn", j, "s", ahead...)
				lies(t, "torn", d, framed("s"), framed(ahead...))
				if j.Down() {
					t.Error("down")
				}
				has(t, "opened again", opened(t, d), "s", ahead...)
				add(t, j, "next")
				has(t, "one more", opened(t, d), "s", append(ahead[:len(ahead):len(ahead)], "next")...)
			}
		}
	}
}

// P4.2: what is torn may be anything that tells too great a length; all behind it goes, too.
func TestOpenOfATornLogOfAnyBytes(t *testing.T) {
	for _, rest := range []string{
		"x", "xy", "xyz", "\x00", "\x00\x00\x00\x00", "any bytes at all",
		"\xff\xff\xff\xff" + framed("b"),
		"\x20\x00\x00\x00" + framed("b"),
		"\x01\x00\x10\x00" + string(fill(api.MaxText+5)),
		"\x00\x00\x10\x00" + string(fill(api.MaxText+3)),
	} {
		d := laid(t, framed("s"), framed("a")+rest)
		has(t, "torn", opened(t, d), "s", "a")
		lies(t, "torn", d, framed("s"), framed("a"))
	}
}

// P4.2
func TestOpenOfALogWithAFalseSum(t *testing.T) {
	records := []string{"a", "", "ccc"}
	at := 0
	for _, r := range records {
		n := len(framed(r))
		for bit := 8 * (at + 4); bit < 8*(at+n); bit++ {
			turned := flip(framed(records...), bit)
			opens(t, "a bit turned", framed("s"), turned, api.ErrSum)
			opens(t, "a bit turned, and torn behind", framed("s"), turned+"xyz", api.ErrSum)
			opens(t, "a bit turned, and more behind", framed("s"), turned+framed("d"), api.ErrSum)
		}
		at += n
	}
	opens(t, "the last four bytes are noughts", framed("s"), framed("a")+"\x00\x00\x00\x00\x00\x00\x00\x00", api.ErrSum)
}

// P4.2: a false sum ahead of what Open does makes it no writing call.
func TestOpenOfAFalseSumWritesNothing(t *testing.T) {
	d := laid(t, framed("s"), flip(framed("a"), 40)+"xyz")
	d.Stop(0)
	j, e := journal.Open(d)
	refused(t, "a false sum", api.ErrSum, j, e)
	if d.Off() {
		t.Error("a writing call was made")
	}
}

// P4.2: Open's one writing call is the Cut of what is torn.
func TestOpenTorn(t *testing.T) {
	for k := 1; k < len(framed("bb")); k++ {
		d := laid(t, framed("s"), framed("a")+framed("bb")[:k])
		d.Stop(0)
		j, e := journal.Open(d)
		refused(t, "the power goes", api.ErrTorn, j, e)
		if !d.Off() {
			t.Error("no writing call was made")
		}
		d.Crash(0)
		lies(t, "behind a crash", d, framed("s"), framed("a")+framed("bb")[:k])
		d.Stop(1)
		j = opened(t, d)
		has(t, "behind a crash", j, "s", "a")
		says(t, "the call behind the Cut", j.Add([]byte("c")), api.ErrTorn)
		d.Crash(100)
		has(t, "behind another crash", opened(t, d), "s", "a", "c")
	}
	d := laid(t, framed("s"), framed("a"))
	d.Stop(0)
	j := opened(t, d)
	has(t, "nothing is torn", j, "s", "a")
	if d.Off() {
		t.Error("a writing call was made")
	}
	says(t, "the next call", j.Sync(), api.ErrTorn)
}

// P4.2: an Open without a crash ahead finds what waits, and makes nothing sure.
func TestOpenOfWhatWaits(t *testing.T) {
	d, _ := made(t)
	hasMade(t, "with ccc waiting", opened(t, d))
	d.Crash(0)
	has(t, "behind a crash", opened(t, d), "image", "a", "")

	d, _ = made(t)
	fine(t, d.Append([]byte("xyz")))
	hasMade(t, "torn and waiting", opened(t, d))
	liesMade(t, "torn and waiting", d)
}

// Rule 6: what is torn off isn't the journal's memory, nor is what the disk answered.
func TestOpenIsApart(t *testing.T) {
	d := laid(t, framed("image"), framed("a", "", "ccc")+"xyz")
	j, k := opened(t, d), opened(t, d)
	fine(t, j.Save([]byte("other")))
	add(t, j, "1234567", "89")
	hasMade(t, "the other one", k)
	has(t, "this one", j, "other", "1234567", "89")
}
