package insts_test

import (
	"bytes"
	"math"
	"slices"
	"strings"
	"testing"

	"lamella/api"
	"lamella/insts"
	"lamella/octet"
)

// some are instances of all kinds, also such as may not be.
func some() []api.Inst {
	far := api.Inst{
		Ref: ref(math.MinInt, math.MaxInt), Ballot: ballot(-1, 1<<40), Vote: ballot(math.MaxInt, math.MinInt), Status: -9,
		Cmd: api.Cmd{Op: 255, Client: -1, Seq: math.MinInt, From: math.MaxInt, To: -129, Data: []string{"", "x\x00", strings.Repeat("f", 9000)}},
		Seq: math.MinInt, Deps: refs(ref(9, 9), ref(-1, 0), ref(9, 9), ref(math.MaxInt, math.MinInt)),
	}
	l := []api.Inst{
		{}, {Same: true}, {Ref: ref(0, 1)}, rich(), far,
		seen(ref(6, 1<<30), api.Cmd{Op: api.OpFreeze}, 1<<40, rows(4096)...),
		{Ref: ref(1, 127), Ballot: ballot(128, 6), Vote: ballot(16383, 5), Status: api.Done, Cmd: read(3, 240, 256), Seq: 16384},
	}
	return append(l, others()...)
}

// P7.2
func TestLayAndTake(t *testing.T) {
	for i, x := range some() {
		if b := lay(x); !bytes.Equal(b, laid(x)) {
			t.Errorf("number %d is laid as % .80x, want % .80x", i, b, laid(x))
		}
		r := octet.NewReader(append(laid(x), 9, 8))
		if got := insts.Take(r); !alike(got, x) || r.Bad() || r.Left() != 2 {
			t.Errorf("number %d is taken as another one, bad %v, left %d", i, r.Bad(), r.Left())
		}
	}
	x := api.Inst{Ref: ref(1, 2), Ballot: ballot(3, 4), Vote: ballot(5, 6), Status: 7, Same: true, Cmd: write(8, 9, 10, "a"), Seq: 12, Deps: refs(ref(13, 14), ref(-1, 300))}
	want := []byte{0, 1, 0, 2, 0, 3, 0, 4, 0, 5, 0, 6, 0, 7, 1, 2, 0, 8, 0, 9, 0, 10, 0, 11, 1, 1, 'a', 0, 12, 2, 0, 13, 0, 14, 1, 0, 0, 0x82, 0x2c}
	if b := lay(x); !bytes.Equal(b, want) {
		t.Errorf("% x, not % x", b, want)
	}
}

// P7.2: Lay goes on where the writer stands, and Take where the reader does.
func TestOneBehindTheOther(t *testing.T) {
	w := &octet.Writer{}
	w.Num(300)
	octet.Put(w, some(), insts.Lay)
	w.Byte(7)
	r := octet.NewReader(w.Bytes())
	r.Num()
	if got := octet.Get(r, insts.Take); !slices.EqualFunc(got, some(), alike) {
		t.Error("they are others")
	}
	if r.Byte() != 7 || !r.End() {
		t.Error("something is left")
	}
}

// takesNothing checks a Take of bytes that are no instance.
func takesNothing(t *testing.T, what string, r *octet.Reader) {
	t.Helper()
	for range 2 {
		if x := insts.Take(r); !alike(x, api.Inst{}) || !r.Bad() {
			t.Errorf("%s: %v, bad %v", what, x, r.Bad())
		}
	}
}

// P7.2: of a reader that becomes bad the zero value, wherever it does.
func TestTakeOfBeginnings(t *testing.T) {
	for _, x := range some() {
		b := laid(x)
		for n := range len(b) {
			if n < 150 || n > len(b)-150 || n%997 == 0 {
				takesNothing(t, "a beginning", octet.NewReader(b[:n]))
			}
		}
	}
}

// P7.2: of a reader that is bad, or none, the zero value.
func TestTakeOfBadReaders(t *testing.T) {
	bad := octet.NewReader(append([]byte{2}, laid(rich())...))
	bad.Bool()
	takesNothing(t, "a bad one", bad)
	takesNothing(t, "nil", nil)
	takesNothing(t, "no bytes", octet.NewReader(nil))
}

// P7.2: bytes that no Lay lays.
func TestTakeOfOtherBytes(t *testing.T) {
	b := laid(api.Inst{Ref: ref(1, 1), Status: 1, Cmd: read(1, 0, 1), Seq: 5})
	for _, at := range []int{0, 2, 4, 6, 8, 10, 12, 14, 16, 25} {
		wrong := slices.Clone(b)
		wrong[at] = 2
		takesNothing(t, "an Int or a Bool that begins with 2", octet.NewReader(wrong))
	}
	head := b[:len(b)-1]
	takesNothing(t, "Deps of more than there is", octet.NewReader(slices.Concat(head, laidNum(3), make([]byte, 2))))
	takesNothing(t, "Deps that end early", octet.NewReader(slices.Concat(head, laidNum(2), make([]byte, 7))))
	takesNothing(t, "an Int of Deps that begins with 2", octet.NewReader(slices.Concat(head, laidNum(1), []byte{0, 1, 2, 1})))
	takesNothing(t, "too many Deps", octet.NewReader(lay(seen(ref(0, 1), api.Cmd{}, 1, rows(4097)...))))
	takesNothing(t, "a Num of two noughts", octet.NewReader(slices.Insert(slices.Clone(b), 1, 128)))
}

// P7.2: any bytes that are taken are those that are laid.
func TestTakeOfAnyBytes(t *testing.T) {
	d := newDice()
	taken := 0
	for range 50000 {
		b := laid(rich())
		for range 1 + d.Intn(3) {
			b[d.Intn(len(b))] = byte(d.Intn(4) + 126*d.Intn(2))
		}
		r := octet.NewReader(b)
		x := insts.Take(r)
		if r.Bad() {
			if !alike(x, api.Inst{}) {
				t.Fatalf("% x: bad, and %v", b, x)
			}
			continue
		}
		taken++
		if !bytes.Equal(lay(x), b[:len(b)-r.Left()]) {
			t.Fatalf("% x: %v", b, x)
		}
	}
	if taken < 1000 {
		t.Error("hardly any were taken", taken)
	}
}

// Rule 1: a command's kind is laid as a byte, whatever it is; no writer is no fault.
func TestLayOfAnything(t *testing.T) {
	for _, op := range []int{256, 258, -1, -256, math.MaxInt, math.MinInt} {
		x := changed(rich(), func(x *api.Inst) { x.Cmd.Op = op })
		if !bytes.Equal(lay(x), laid(x)) {
			t.Errorf("Op %d: % x", op, lay(x))
		}
	}
	long := seen(ref(0, 1), api.Cmd{}, 1, rows(5000)...)
	if !bytes.Equal(lay(long), laid(long)) {
		t.Error("long Deps are laid as others")
	}
	insts.Lay(nil, rich())
}

// Rule 4: what is taken is new memory.
func TestMemoryOfTakes(t *testing.T) {
	arg, untouched := roomy(laid(rich()), 7, 7, 7)
	r := octet.NewReader(arg)
	x := insts.Take(r)
	x.Deps = append(x.Deps, ref(9, 9))
	x.Deps[0] = ref(8, 8)
	x.Cmd.Data = append(x.Cmd.Data, "more")
	x.Cmd.Data[0] = "other"
	if !untouched() || !r.End() {
		t.Error("the bytes were changed")
	}
}
