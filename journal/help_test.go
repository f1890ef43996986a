package journal_test

import (
	"bytes"
	"encoding/binary"
	"hash/crc32"
	"math/rand"
	"slices"
	"testing"

	"lamella/api"
	"lamella/disk"
	"lamella/journal"
)

// device is a new one of so many sectors.
func device(t *testing.T, room int) *disk.Disk {
	t.Helper()
	d, e := disk.New(room)
	if d == nil || e != api.OK {
		t.Fatalf("New(%d): %v, %d", room, d, e)
	}
	return d
}

// fill is n bytes that tell their places apart.
func fill(n int) []byte {
	b := make([]byte, n)
	for i := range b {
		b[i] = byte(i*7 + i/256)
	}
	return b
}

// framed is the frames of the texts, one behind the other, by the words of P1.4.
func framed(texts ...string) string {
	var all []byte
	for _, s := range texts {
		f := append(binary.LittleEndian.AppendUint32(nil, uint32(len(s))), s...)
		all = append(all, binary.LittleEndian.AppendUint32(f, crc32.ChecksumIEEE(f))...)
	}
	return string(all)
}

// says checks what a call answered.
func says(t *testing.T, what string, got, want api.Errno) {
	t.Helper()
	if got != want {
		t.Errorf("%s: got error %d, want %d", what, got, want)
	}
}

// fine is says for what can't fail, so that the test need not go on.
func fine(t *testing.T, errors ...api.Errno) {
	t.Helper()
	for i, e := range errors {
		if e != api.OK {
			t.Fatalf("call %d: error %d", i, e)
		}
	}
}

// refused checks an answer of Format or Open that is an error.
func refused(t *testing.T, what string, want api.Errno, j *journal.Journal, e api.Errno) {
	t.Helper()
	if j != nil || e != want {
		t.Errorf("%s: got %v, error %d, want error %d", what, j, e, want)
	}
}

// formatted is a new journal on d.
func formatted(t *testing.T, d *disk.Disk, image string) *journal.Journal {
	t.Helper()
	j, e := journal.Format(d, []byte(image))
	if j == nil || e != api.OK {
		t.Fatalf("Format: %v, %d", j, e)
	}
	return j
}

// opened is the journal that lies on d.
func opened(t *testing.T, d *disk.Disk) *journal.Journal {
	t.Helper()
	j, e := journal.Open(d)
	if j == nil || e != api.OK {
		t.Fatalf("Open: %v, %d", j, e)
	}
	return j
}

// add adds records that fit.
func add(t *testing.T, j *journal.Journal, records ...string) {
	t.Helper()
	for _, r := range records {
		fine(t, j.Add([]byte(r)))
	}
}

// made is a journal on a device of 16 sectors with the image "image" and the records "a", "", "ccc", of which the first two are sure.
func made(t *testing.T) (*disk.Disk, *journal.Journal) {
	t.Helper()
	d := device(t, 16)
	j := formatted(t, d, "image")
	add(t, j, "a", "")
	fine(t, j.Sync())
	add(t, j, "ccc")
	return d, j
}

// has checks all that a journal tells.
func has(t *testing.T, what string, j *journal.Journal, image string, records ...string) {
	t.Helper()
	if got := string(j.Image()); got != image {
		t.Errorf("%s: Image is %d bytes, %.40q, want %d, %.40q", what, len(got), got, len(image), image)
	}
	if got := texts(j.Records()); !slices.Equal(got, records) {
		t.Errorf("%s: Records are %d, %.40q, want %d, %.40q", what, len(got), got, len(records), records)
	}
	if j.Count() != len(records) {
		t.Errorf("%s: Count is %d, want %d", what, j.Count(), len(records))
	}
	if want := len(framed(records...)); j.Size() != want {
		t.Errorf("%s: Size is %d, want %d", what, j.Size(), want)
	}
}

// hasMade is has for what made answers.
func hasMade(t *testing.T, what string, j *journal.Journal) {
	t.Helper()
	has(t, what, j, "image", "a", "", "ccc")
}

func texts(l [][]byte) []string {
	s := make([]string, len(l))
	for i, b := range l {
		s[i] = string(b)
	}
	return s
}

// lies checks which bytes stand on a device.
func lies(t *testing.T, what string, d *disk.Disk, image, log string) {
	t.Helper()
	if b, e := d.Image(); string(b) != image || e != api.OK {
		t.Errorf("%s: the disk's image is %d bytes, % .40x, error %d, want %d, % .40x", what, len(b), b, e, len(image), image)
	}
	if b, e := d.Log(); string(b) != log || e != api.OK {
		t.Errorf("%s: the disk's log is %d bytes, % .40x, error %d, want %d, % .40x", what, len(b), b, e, len(log), log)
	}
}

// liesMade is lies for made's device.
func liesMade(t *testing.T, what string, d *disk.Disk) {
	t.Helper()
	lies(t, what, d, framed("image"), framed("a", "", "ccc"))
}

// laid is a device with any bytes as its image and as its log, all of them sure.
func laid(t *testing.T, image, log string) *disk.Disk {
	t.Helper()
	d := device(t, 16+(len(image)+len(log))/api.Sector)
	fine(t, d.Stage([]byte(image)), d.Commit(), d.Append([]byte(log)), d.Sync())
	return d
}

// flip is s with one bit turned.
func flip(s string, bit int) string {
	b := []byte(s)
	b[bit/8] ^= 1 << (bit % 8)
	return string(b)
}

// roomy answers b in front of bytes that nobody may touch, and whether they, and b, are still as they were.
func roomy(b string) (arg []byte, untouched func() bool) {
	all := []byte(b + "behind")
	was := bytes.Clone(all)
	return all[:len(b)], func() bool { return bytes.Equal(all, was) }
}

// spoil changes all bytes that b reaches, its spare room included.
func spoil(b []byte) {
	for i := range b[:cap(b)] {
		b[:cap(b)][i] ^= 0xff
	}
}

// dice are the same in each run.
func dice() *rand.Rand { return rand.New(rand.NewSource(4)) }
