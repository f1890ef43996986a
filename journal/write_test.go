package journal_test

import (
	"testing"

	"lamella/api"
	"lamella/journal"
)

// P4.4
func TestAdd(t *testing.T) {
	d := device(t, 64)
	j := formatted(t, d, "s")
	var records []string
	for _, r := range []string{"a", "", "bb", "a", string(fill(513)), "", framed("x")} {
		says(t, "Add", j.Add([]byte(r)), api.OK)
		records = append(records, r)
		has(t, "behind Add", j, "s", records...)
	}
	says(t, "Add of nil", j.Add(nil), api.OK)
	has(t, "behind Add of nil", j, "s", append(records, "")...)
	has(t, "Open of it", opened(t, d), "s", append(records, "")...)
}

// P4.4: it is sure behind a Sync.
func TestSync(t *testing.T) {
	d, _ := made(t)
	d.Crash(0)
	has(t, "without a Sync", opened(t, d), "image", "a", "")

	d, j := made(t)
	says(t, "Sync", j.Sync(), api.OK)
	hasMade(t, "behind Sync", j)
	liesMade(t, "behind Sync", d)
	d.Crash(0)
	hasMade(t, "behind a crash", opened(t, d))

	j = formatted(t, device(t, 2), "s")
	says(t, "of nothing", j.Sync(), api.OK)
	says(t, "again", j.Sync(), api.OK)
	has(t, "of nothing", j, "s")
}

// P4.4: an Add makes no other one sure, and one call of the disk each is all that is made.
func TestAddAndSyncAreOneCallEach(t *testing.T) {
	d := device(t, 8)
	j := formatted(t, d, "s")
	d.Stop(3)
	add(t, j, "a", "b")
	fine(t, j.Sync())
	says(t, "the fourth", j.Sync(), api.ErrTorn)

	d = device(t, 8)
	j = formatted(t, d, "s")
	add(t, j, "a", "b", "c")
	d.Crash(0)
	has(t, "nothing was sure", opened(t, d), "s")
}

// P4.4
func TestSave(t *testing.T) {
	for _, image := range []string{"next", "", string(fill(700)), framed("x"), "image"} {
		d, j := made(t)
		says(t, "Save", j.Save([]byte(image)), api.OK)
		has(t, "behind Save", j, image)
		lies(t, "behind Save", d, framed(image), "")
		add(t, j, "d")
		has(t, "Add behind Save", j, image, "d")
		d.Crash(0)
		has(t, "behind a crash", opened(t, d), image)
	}
	d, j := made(t)
	says(t, "Save of nil", j.Save(nil), api.OK)
	has(t, "Save of nil", j, "")
	lies(t, "Save of nil", d, framed(""), "")
	says(t, "Save again", j.Save([]byte("x")), api.OK)
	says(t, "Save once more", j.Save([]byte("y")), api.OK)
	has(t, "three Saves", j, "y")
}

// P4.4: Save's calls are Stage and Commit, and no more.
func TestSaveIsTwoCalls(t *testing.T) {
	d, j := made(t)
	d.Stop(2)
	says(t, "Save", j.Save([]byte("next")), api.OK)
	says(t, "the call behind", j.Sync(), api.ErrTorn)
	has(t, "down", j, "next")
	d.Crash(0)
	has(t, "it was sure", opened(t, d), "next")
}

// P4.4: a frame has 8 bytes beside the record's.
func TestAddFull(t *testing.T) {
	for _, c := range []struct {
		room, image int
		records     []string
		fits        int // bytes of a record, and not one more
	}{
		{2, 0, nil, 504},
		{2, 504, nil, 504},
		{3, 505, nil, 504},
		{3, 0, nil, 1016},
		{2, 0, []string{"a"}, 495},
		{3, 0, []string{"a", "", "ccc"}, 988},
		{2, 0, []string{string(fill(496))}, 0},
		{3, 504, []string{string(fill(1008))}, 0},
	} {
		d := device(t, c.room)
		image := string(fill(c.image))
		j := formatted(t, d, image)
		add(t, j, c.records...)
		for _, n := range []int{c.fits + 1, c.fits + 2, c.fits + 5000} {
			says(t, "too much", j.Add(fill(n)), api.ErrFull)
			has(t, "behind what was refused", j, image, c.records...)
			lies(t, "behind what was refused", d, framed(image), framed(c.records...))
		}
		if j.Down() {
			t.Error("down behind ErrFull")
		}
		last := string(fill(c.fits))
		says(t, "just all", j.Add([]byte(last)), api.OK)
		all := append(c.records[:len(c.records):len(c.records)], last)
		has(t, "just all", j, image, all...)
		says(t, "nothing more", j.Add(nil), api.ErrFull)
		says(t, "Sync", j.Sync(), api.OK)
		d.Crash(0)
		has(t, "behind a crash", opened(t, d), image, all...)
	}
	d := device(t, 1)
	j := formatted(t, d, "s")
	says(t, "no room for a log", j.Add(nil), api.ErrFull)
	has(t, "no room for a log", j, "s")
}

// P4.4: the old image and the log have their room till the new one is committed.
func TestSaveFull(t *testing.T) {
	for _, c := range []struct {
		room, image int
		records     []string
		fits        int // bytes of an image, and not one more
	}{
		{2, 0, nil, 504},
		{2, 504, nil, 504},
		{3, 505, nil, 504},
		{3, 504, []string{"a"}, 504},
		{3, 504, []string{string(fill(504))}, 504},
		{4, 504, []string{string(fill(505))}, 504},
		{9, 1000, []string{"a", string(fill(600))}, 5*512 - 8},
	} {
		d := device(t, c.room)
		image := string(fill(c.image))
		j := formatted(t, d, image)
		add(t, j, c.records...)
		for _, n := range []int{c.fits + 1, c.fits + 2, c.fits + 5000} {
			says(t, "too much", j.Save(fill(n)), api.ErrFull)
			has(t, "behind what was refused", j, image, c.records...)
			lies(t, "behind what was refused", d, framed(image), framed(c.records...))
		}
		if j.Down() {
			t.Error("down behind ErrFull")
		}
		next := string(fill(c.fits))
		says(t, "just all", j.Save([]byte(next)), api.OK)
		has(t, "just all", j, next)
		lies(t, "just all", d, framed(next), "")
	}
	d := device(t, 2)
	j := formatted(t, d, "s")
	add(t, j, "a")
	says(t, "no room for a stage", j.Save(nil), api.ErrFull)
	has(t, "no room for a stage", j, "s", "a")
	lies(t, "no room for a stage", d, framed("s"), framed("a"))
	add(t, j, "b")
	has(t, "it goes on", opened(t, d), "s", "a", "b")
}

// P4.4: what is too big is told ahead of what the disk would say, and the disk isn't called.
func TestTooBig(t *testing.T) {
	more := fill(api.MaxText + 1)
	d, j := made(t)
	d.Stop(0)
	says(t, "Add", j.Add(more), api.ErrBig)
	says(t, "Save", j.Save(more), api.ErrBig)
	if j.Down() || d.Off() {
		t.Errorf("Down %v, Off %v", j.Down(), d.Off())
	}
	hasMade(t, "behind them", j)
	liesMade(t, "behind them", d)
}

// torn are the calls of a journal at which the power goes at the disk's call number n.
func torn() []struct {
	what string
	n    int
	call func(j *journal.Journal) api.Errno
} {
	save := func(j *journal.Journal) api.Errno { return j.Save([]byte("next")) }
	return []struct {
		what string
		n    int
		call func(j *journal.Journal) api.Errno
	}{
		{"Add", 0, func(j *journal.Journal) api.Errno { return j.Add([]byte("dd")) }},
		{"Add of nothing", 0, func(j *journal.Journal) api.Errno { return j.Add(nil) }},
		{"Add of too much", 0, func(j *journal.Journal) api.Errno { return j.Add(fill(10000)) }},
		{"Sync", 0, (*journal.Journal).Sync},
		{"Save at its Stage", 0, save},
		{"Save at its Commit", 1, save},
		{"Save of too much", 0, func(j *journal.Journal) api.Errno { return j.Save(fill(10000)) }},
	}
}

// isDown checks a journal of made that has met a power that went.
func isDown(t *testing.T, what string, j *journal.Journal) {
	t.Helper()
	for range 2 {
		if !j.Down() {
			t.Errorf("%s: not down", what)
		}
		for _, b := range [][]byte{nil, []byte("x"), fill(10000)} {
			says(t, what+", Add", j.Add(b), api.ErrDown)
			says(t, what+", Save", j.Save(b), api.ErrDown)
		}
		says(t, what+", Sync", j.Sync(), api.ErrDown)
		hasMade(t, what, j)
	}
}

// P4.4: the one that met it is ErrTorn, each behind it ErrDown, also when the disk is back.
func TestDown(t *testing.T) {
	for _, c := range torn() {
		for _, keep := range []int{-1, 0, 3, 11, 100} {
			d, j := made(t)
			d.Stop(c.n)
			if j.Down() {
				t.Errorf("%s: down ahead of it", c.what)
			}
			says(t, c.what, c.call(j), api.ErrTorn)
			isDown(t, c.what, j)
			d.Crash(keep)
			isDown(t, c.what+", the disk is back", j)
			k := opened(t, d)
			add(t, k, "of another")
			isDown(t, c.what+", opened anew", j)
		}
	}
}

// P4.4: so it is when the power has gone at somebody else's call.
func TestDownByAPowerThatIsOff(t *testing.T) {
	for _, c := range torn() {
		d, j := made(t)
		d.Stop(0)
		says(t, "another's call", d.Sync(), api.ErrTorn)
		if j.Down() {
			t.Error("down, and has met nothing")
		}
		hasMade(t, "the power is off", j)
		says(t, c.what, c.call(j), api.ErrTorn)
		isDown(t, c.what, j)
	}
}

// P4.4: a journal that is down says so whatever it is given.
func TestDownAndTooBig(t *testing.T) {
	d, j := made(t)
	d.Stop(0)
	says(t, "Sync", j.Sync(), api.ErrTorn)
	says(t, "Add", j.Add(fill(api.MaxText+1)), api.ErrDown)
	says(t, "Save", j.Save(fill(api.MaxText+1)), api.ErrDown)
}

// P4.4: what a journal that is down is asked for never reaches the disk.
func TestDownWritesNothing(t *testing.T) {
	d, j := made(t)
	fine(t, j.Sync())
	d.Stop(0)
	says(t, "Sync", j.Sync(), api.ErrTorn)
	d.Crash(0)
	d.Stop(0)
	isDown(t, "the disk is back", j)
	if d.Off() {
		t.Error("a writing call was made")
	}
	liesMade(t, "behind them", d)
}

// P4.4: no other error makes a journal go down.
func TestNotDown(t *testing.T) {
	d := device(t, 3)
	j := formatted(t, d, "s")
	says(t, "Add", j.Add(fill(5000)), api.ErrFull)
	says(t, "Save", j.Save(fill(5000)), api.ErrFull)
	says(t, "Add", j.Add(fill(api.MaxText+1)), api.ErrBig)
	says(t, "Save", j.Save(fill(api.MaxText+1)), api.ErrBig)
	if j.Down() {
		t.Error("down")
	}
	add(t, j, "a")
	fine(t, j.Sync(), j.Save([]byte("t")))
	has(t, "it goes on", j, "t")
}

// P4.4, P4.5: what a journal that met a power that went finds when it is opened anew, by what its disk kept.
func TestOpenBehindDown(t *testing.T) {
	for _, c := range []struct {
		what    string
		n, keep int
		call    func(j *journal.Journal) api.Errno
		image   string
		records []string
	}{
		{"Add, none stays", 0, 0, addD, "image", []string{"a", ""}},
		{"Add, part of the one ahead stays", 0, 10, addD, "image", []string{"a", ""}},
		{"Add, the one ahead stays", 0, 11, addD, "image", []string{"a", "", "ccc"}},
		{"Add, all but a byte stays", 0, 11 + 9, addD, "image", []string{"a", "", "ccc"}},
		{"Add, all stays", 0, 11 + 10, addD, "image", []string{"a", "", "ccc", "dd"}},
		{"Sync, none stays", 0, 0, (*journal.Journal).Sync, "image", []string{"a", ""}},
		{"Sync, all stays", 0, 100, (*journal.Journal).Sync, "image", []string{"a", "", "ccc"}},
		{"Save's Stage, none stays", 0, 0, saveNext, "image", []string{"a", ""}},
		{"Save's Stage, all stays", 0, 100, saveNext, "image", []string{"a", "", "ccc"}},
		{"Save's Commit, none stays", 1, 0, saveNext, "image", []string{"a", ""}},
		{"Save's Commit, all stays", 1, 100, saveNext, "image", []string{"a", "", "ccc"}},
	} {
		d, j := made(t)
		d.Stop(c.n)
		says(t, c.what, c.call(j), api.ErrTorn)
		d.Crash(c.keep)
		k := opened(t, d)
		has(t, c.what, k, c.image, c.records...)
		has(t, c.what+", opened again", opened(t, d), c.image, c.records...)
		add(t, k, "e")
		has(t, c.what+", and goes on", opened(t, d), c.image, append(c.records, "e")...)
	}
}

func addD(j *journal.Journal) api.Errno { return j.Add([]byte("dd")) }

func saveNext(j *journal.Journal) api.Errno { return j.Save([]byte("next")) }

// P4.4: an Add that the power took has a record on the disk that the journal never told; it is no record of the journal that is down.
func TestAddThatIsTornIsNotTold(t *testing.T) {
	d, j := made(t)
	d.Stop(0)
	says(t, "Add", addD(j), api.ErrTorn)
	hasMade(t, "the journal", j)
	d.Crash(100)
	lies(t, "the disk", d, framed("image"), framed("a", "", "ccc", "dd"))
	hasMade(t, "the journal, still", j)
}

// P4.4: a stage that others left on the disk takes room, and makes way for a Save.
func TestAnothersStage(t *testing.T) {
	d := device(t, 3)
	j := formatted(t, d, "s")
	fine(t, d.Stage(fill(1024)))
	says(t, "Add", j.Add([]byte("a")), api.ErrFull)
	says(t, "Save", j.Save([]byte("t")), api.OK)
	has(t, "behind Save", j, "t")
	says(t, "Add", j.Add([]byte("a")), api.OK)
	lies(t, "behind both", d, framed("t"), framed("a"))
}
