package blocks_test

import (
	"bytes"
	"math"
	"slices"
	"strings"
	"testing"

	"lamella/api"
	"lamella/blocks"
	"lamella/octet"
)

// may checks May of each.
func may(t *testing.T, want bool, l ...api.Cmd) {
	t.Helper()
	for i, c := range l {
		if blocks.May(c) != want {
			t.Errorf("%d, %s: May is %v", i, short(c), !want)
		}
	}
}

// changed is c with one thing changed.
func changed(c api.Cmd, change func(*api.Cmd)) api.Cmd {
	c.Data = slices.Clone(c.Data)
	change(&c)
	return c
}

// clientsOps are what a client may want.
var clientsOps = []int{api.OpRead, api.OpWrite, api.OpTrim, api.OpFlush}

// asked is a command of a client, with texts if it needs them.
func asked(op, client, seq, from, to int) api.Cmd {
	c := command(op, client, seq, from, to)
	if op == api.OpWrite && to > from {
		c.Data = slices.Repeat([]string{"x"}, to-from)
	}
	return c
}

// P5.2: OpNone and OpFreeze have nothing else.
func TestMayOfNobodysCommands(t *testing.T) {
	for _, op := range []int{api.OpNone, api.OpFreeze} {
		may(t, true, api.Cmd{Op: op}, api.Cmd{Op: op, Data: []string{}})
		may(t, false,
			api.Cmd{Op: op, Client: 1}, api.Cmd{Op: op, Client: -1}, api.Cmd{Op: op, Seq: 1}, api.Cmd{Op: op, Seq: -1},
			api.Cmd{Op: op, From: 1}, api.Cmd{Op: op, From: -1}, api.Cmd{Op: op, To: 1}, api.Cmd{Op: op, To: -1},
			api.Cmd{Op: op, Data: []string{""}}, api.Cmd{Op: op, Client: 1, Seq: 1, To: 1})
	}
}

// P5.2: there are no other kinds of commands.
func TestMayOfOtherKinds(t *testing.T) {
	for _, op := range []int{-1, 6, 7, 256, 257, 1 << 32, 1<<32 + 1, math.MinInt, math.MaxInt} {
		may(t, false, api.Cmd{Op: op}, command(op, 1, 1, 0, 1), changed(write(1, 1, 0, "a"), func(c *api.Cmd) { c.Op = op }))
	}
}

// P5.2
func TestMayOfClientsCommands(t *testing.T) {
	for _, op := range clientsOps {
		for _, client := range []int{0, 1, 2, 3} {
			may(t, true, asked(op, client, 1, 0, 1))
		}
		may(t, true, asked(op, 0, 2, 0, 1), asked(op, 0, api.MaxSeq, 0, 1),
			asked(op, 0, 1, 0, 16), asked(op, 0, 1, 255, 256), asked(op, 0, 1, 240, 256), asked(op, 0, 1, 100, 116))
		for _, client := range []int{-1, 4, 5, math.MinInt, math.MaxInt} {
			may(t, false, asked(op, client, 1, 0, 1))
		}
		for _, seq := range []int{0, -1, 1<<40 + 1, math.MinInt, math.MaxInt} {
			may(t, false, asked(op, 1, seq, 0, 1))
		}
		may(t, false, asked(op, 1, 1, 0, 17), asked(op, 1, 1, 239, 256), asked(op, 1, 1, 0, 256))
		may(t, false, asked(op, 1, 1, -1, 1), asked(op, 1, 1, 250, 257), asked(op, 1, 1, 256, 257))
		for _, s := range [][2]int{{0, 0}, {1, 1}, {2, 1}, {-1, 0}, {-2, -1}, {256, 256}, {300, 301},
			{math.MinInt, math.MaxInt}, {math.MinInt, 1}, {math.MinInt, math.MinInt + 1}, {math.MaxInt, math.MinInt}, {0, math.MaxInt}, {math.MaxInt - 1, math.MaxInt}} {
			may(t, false, command(op, 1, 1, s[0], s[1]), changed(command(op, 1, 1, s[0], s[1]), func(c *api.Cmd) { c.Data = []string{"a"} }))
		}
	}
}

// P5.2, P5.1: of a write a block's text for each block, of others none.
func TestMayOfTexts(t *testing.T) {
	may(t, true, write(1, 1, 0, ""), write(1, 1, 0, "", ""), write(1, 1, 0, full), write(1, 1, 0, hollow, "a", full), write(1, 1, 0, "\x00a"))
	for _, bad := range []string{"\x00", "a\x00", full + "f", full + "\x00", strings.Repeat("\x00", 4096), full[1:] + "\x00", strings.Repeat("f", 1<<16)} {
		may(t, false, write(1, 1, 0, bad), write(1, 1, 0, "a", bad, "a"), write(1, 1, 0, bad, "a"), write(1, 1, 0, "a", bad))
	}
	two := write(1, 1, 0, "a", "b")
	may(t, false,
		changed(two, func(c *api.Cmd) { c.Data = nil }),
		changed(two, func(c *api.Cmd) { c.Data = c.Data[:1] }),
		changed(two, func(c *api.Cmd) { c.Data = append(c.Data, "") }))
	for _, op := range []int{api.OpRead, api.OpTrim, api.OpFlush} {
		may(t, true, changed(command(op, 1, 1, 0, 2), func(c *api.Cmd) { c.Data = []string{} }))
		may(t, false, changed(two, func(c *api.Cmd) { c.Op = op }), changed(command(op, 1, 1, 0, 1), func(c *api.Cmd) { c.Data = []string{""} }))
	}
}

// meddle checks Meddle both ways.
func meddle(t *testing.T, want bool, a, b api.Cmd) {
	t.Helper()
	if blocks.Meddle(a, b) != want || blocks.Meddle(b, a) != want {
		t.Errorf("%s, %s: Meddle is %v, %v", short(a), short(b), blocks.Meddle(a, b), blocks.Meddle(b, a))
	}
}

// P5.2
func TestMeddle(t *testing.T) {
	none, freeze := api.Cmd{}, api.Cmd{Op: api.OpFreeze}
	meddle(t, false, none, none)
	meddle(t, false, none, freeze)
	meddle(t, true, freeze, freeze)
	for _, op := range clientsOps {
		meddle(t, false, none, asked(op, 0, 1, 0, 4))
		meddle(t, true, freeze, asked(op, 0, 1, 0, 4))
		for _, other := range clientsOps {
			meddle(t, true, asked(op, 1, 1, 0, 4), asked(other, 1, 1, 0, 4))
			meddle(t, true, asked(op, 1, 1, 0, 4), asked(other, 1, 2, 8, 9))
			meddle(t, false, asked(op, 1, 1, 0, 4), asked(other, 2, 1, 4, 9))
			leave := op != api.OpWrite && op != api.OpTrim && other != api.OpWrite && other != api.OpTrim
			meddle(t, !leave, asked(op, 1, 1, 0, 4), asked(other, 2, 1, 3, 9))
			meddle(t, !leave, asked(op, 1, 1, 0, 9), asked(other, 2, 1, 3, 4))
		}
	}
}

// meddles is Meddle by its words, block by block.
func meddles(a, b api.Cmd) bool {
	if a.Op == api.OpNone || b.Op == api.OpNone {
		return false
	}
	if a.Op == api.OpFreeze || b.Op == api.OpFreeze || a.Client == b.Client {
		return true
	}
	both := false
	for block := -5; block < 10; block++ {
		both = both || a.From <= block && block < a.To && b.From <= block && block < b.To
	}
	leave := func(op int) bool { return op == api.OpRead || op == api.OpFlush }
	return both && (!leave(a.Op) || !leave(b.Op))
}

// P5.2: of commands that may not be, too.
func TestMeddleOfAnything(t *testing.T) {
	d := dice()
	for range 200000 {
		draw := func() api.Cmd {
			return api.Cmd{Op: d.Intn(9) - 2, Client: d.Intn(7) - 2, Seq: d.Intn(3) - 1, From: d.Intn(10) - 4, To: d.Intn(10) - 4}
		}
		a, b := draw(), draw()
		meddle(t, meddles(a, b), a, b)
	}
	all := command(api.OpWrite, 9, -1, math.MinInt, math.MaxInt)
	meddle(t, true, all, command(api.OpRead, -9, 0, math.MaxInt-1, math.MaxInt))
	meddle(t, true, all, command(77, -9, 0, math.MinInt, math.MinInt+1))
	meddle(t, false, all, command(api.OpRead, -9, 0, math.MaxInt, math.MinInt))
	meddle(t, false, all, command(api.OpNone, 9, 1, 0, 1))
	meddle(t, true, command(api.OpFreeze, 1, 2, 3, 4), command(-1, 2, 0, 9, 8))
}

// laidCmd is a command by the words of P5.6.
func laidCmd(c api.Cmd) []byte {
	b := slices.Concat([]byte{byte(c.Op)}, laidInt(c.Client), laidInt(c.Seq), laidInt(c.From), laidInt(c.To), laidNum(uint64(len(c.Data))))
	for _, s := range c.Data {
		b = append(b, laidText(s)...)
	}
	return b
}

func layCmd(c api.Cmd) []byte {
	w := &octet.Writer{}
	blocks.Lay(w, c)
	return w.Bytes()
}

func sameCmd(a, b api.Cmd) bool {
	return a.Op == b.Op && a.Client == b.Client && a.Seq == b.Seq && a.From == b.From && a.To == b.To && slices.Equal(a.Data, b.Data)
}

// someCmds are commands of all kinds, also such as may not be.
func someCmds() []api.Cmd {
	return []api.Cmd{
		{}, {Op: api.OpFreeze}, write(1, 1, 0, "a", "b"), write(3, api.MaxSeq, 240, slices.Repeat([]string{full}, 16)...),
		write(2, 300, 7, "", hollow, "\x00"), command(api.OpRead, 2, 128, 127, 130), command(api.OpTrim, 0, 1, 255, 256), command(api.OpFlush, 3, 5, 0, 1),
		{Op: 255, Client: -1, Seq: math.MinInt, From: math.MaxInt, To: -129, Data: []string{full + full, "", "x\x00"}},
	}
}

// P5.6
func TestLayAndTake(t *testing.T) {
	for _, c := range someCmds() {
		b := layCmd(c)
		if !bytes.Equal(b, laidCmd(c)) {
			t.Errorf("%s is laid as % .60x, want % .60x", short(c), b, laidCmd(c))
		}
		r := octet.NewReader(append(laidCmd(c), 9, 8))
		if got := blocks.Take(r); !sameCmd(got, c) || r.Bad() || r.Left() != 2 {
			t.Errorf("%s is taken as %s, bad %v, left %d", short(c), short(got), r.Bad(), r.Left())
		}
	}
	want := []byte{2, 0, 1, 0, 1, 0, 0, 0, 2, 2, 1, 'a', 1, 'b'}
	if b := layCmd(write(1, 1, 0, "a", "b")); !bytes.Equal(b, want) {
		t.Errorf("% x", b)
	}
}

// P5.6: Lay goes on where the writer stands, and Take where the reader does.
func TestCommandsOneBehindTheOther(t *testing.T) {
	w := &octet.Writer{}
	w.Num(300)
	for _, c := range someCmds() {
		blocks.Lay(w, c)
	}
	r := octet.NewReader(w.Bytes())
	r.Num()
	for i, c := range someCmds() {
		if got := blocks.Take(r); !sameCmd(got, c) {
			t.Errorf("number %d: %s, want %s", i, short(got), short(c))
		}
	}
	if !r.End() {
		t.Error("something is left")
	}
}

// takesNothing checks a Take of bytes that are no command.
func takesNothing(t *testing.T, what string, r *octet.Reader) {
	t.Helper()
	for range 2 {
		if c := blocks.Take(r); !sameCmd(c, api.Cmd{}) || !r.Bad() {
			t.Errorf("%s: %s, bad %v", what, short(c), r.Bad())
		}
	}
}

// P5.6: of a bad reader the zero value, also where it becomes bad only at the end.
func TestTakeOfOtherBytes(t *testing.T) {
	for _, c := range someCmds() {
		b := laidCmd(c)
		for n := range len(b) {
			if n < 200 || n > len(b)-200 || n%997 == 0 {
				takesNothing(t, "a beginning", octet.NewReader(b[:n]))
			}
		}
	}
	bad := octet.NewReader(append([]byte{2}, laidCmd(write(1, 1, 0, "a"))...))
	bad.Bool()
	takesNothing(t, "a bad one", bad)
	takesNothing(t, "nil", nil)
	head := laidCmd(write(1, 1, 0))
	head = head[:len(head)-1]
	takesNothing(t, "a long list", octet.NewReader(slices.Concat(head, laidNum(4097), make([]byte, 5000))))
	if got := blocks.Take(octet.NewReader(slices.Concat(head, laidNum(4096), make([]byte, 4096)))); len(got.Data) != 4096 {
		t.Errorf("a list of MaxList: %d", len(got.Data))
	}
	takesNothing(t, "a long text", octet.NewReader(slices.Concat(head, laidNum(1), laidNum(1<<20+1), make([]byte, 1<<20+1))))
	takesNothing(t, "an Int of 2", octet.NewReader([]byte{2, 2, 1, 0, 1, 0, 0, 0, 2, 0}))
	takesNothing(t, "a Num of two noughts", octet.NewReader([]byte{2, 0, 128, 1, 0, 1, 0, 0, 0, 2, 0}))
}

// P5.6: any bytes that are taken are those that are laid.
func TestTakeOfAnyBytes(t *testing.T) {
	d := dice()
	taken := 0
	for range 50000 {
		b := laidCmd(write(d.Intn(4), d.Intn(400), d.Intn(300), "ab", ""))
		for range 1 + d.Intn(3) {
			b[d.Intn(len(b))] = byte(d.Intn(4) + 126*d.Intn(2))
		}
		r := octet.NewReader(b)
		c := blocks.Take(r)
		if r.Bad() {
			if !sameCmd(c, api.Cmd{}) {
				t.Fatalf("% x: bad, and %s", b, short(c))
			}
			continue
		}
		taken++
		if !bytes.Equal(layCmd(c), b[:len(b)-r.Left()]) {
			t.Fatalf("% x: %s", b, short(c))
		}
	}
	if taken < 1000 {
		t.Error("hardly any were taken", taken)
	}
}

// Rule 1: a command's kind is laid as a byte, whatever it is; no writer is no fault.
func TestLayOfAnyKind(t *testing.T) {
	for _, op := range []int{256, 258, -1, -256, math.MaxInt, math.MinInt} {
		c := command(op, 1, 1, 0, 1)
		if !bytes.Equal(layCmd(c), laidCmd(c)) {
			t.Errorf("%s: % x", short(c), layCmd(c))
		}
	}
	blocks.Lay(nil, write(1, 1, 0, "a"))
}

// Rule 4: what is handed in is neither changed nor kept, and what is taken is new memory.
func TestMemoryOfCommands(t *testing.T) {
	data, untouched := roomy([]string{"a", "b"}, "c", "d")
	c := api.Cmd{Op: api.OpWrite, Client: 1, Seq: 1, To: 2, Data: data}
	b := layCmd(c)
	blocks.May(c)
	blocks.Meddle(c, c)
	if !untouched() {
		t.Error("the texts were changed")
	}
	arg, same := roomy(b, 7, 7, 7)
	r := octet.NewReader(arg)
	got := blocks.Take(r)
	got.Data = append(got.Data, "more")
	got.Data[0] = "other"
	if !same() {
		t.Error("the bytes were changed")
	}
}
