package node_test

import (
	"math"
	"slices"
	"testing"

	"lamella/api"
	"lamella/disk"
	"lamella/journal"
	"lamella/node"
)

// P13.1: each number at its least and at its most, and beyond.
func TestMay(t *testing.T) {
	most := api.Conf{Nodes: 7, Half: 3, Blocks: 256, Voters: 7, Clients: 4, Room: 1 << 16, Rules: api.Rules{Hot: 1 << 30, Cold: 1 << 30, Long: 1 << 30, Mute: 1 << 30, Cap: 1 << 30}}
	least := api.Conf{Nodes: 1, Blocks: 1, Voters: 1, Clients: 1, Room: 1}
	for _, c := range []api.Conf{most, least, alone(), three(), four(), {Nodes: 3, Half: 0, Blocks: 1, Voters: 2, Clients: 1, Room: 1}, {Nodes: 4, Half: 1, Blocks: 1, Voters: 4, Clients: 1, Room: 1}} {
		if !node.May(c) {
			t.Errorf("%v may not be", c)
		}
	}
	for _, base := range []api.Conf{most, least} {
		for _, n := range []int{-1, math.MinInt, math.MaxInt, 1 << 31} {
			for i := range 11 {
				c := base
				r := &c.Rules
				*[]*int{&c.Nodes, &c.Half, &c.Blocks, &c.Voters, &c.Clients, &c.Room, &r.Hot, &r.Cold, &r.Long, &r.Mute, &r.Cap}[i] = n
				if node.May(c) {
					t.Errorf("%v may be", c)
				}
			}
		}
	}
	for i, spoil := range []func(c *api.Conf){
		func(c *api.Conf) { c.Nodes = 0 }, func(c *api.Conf) { c.Nodes = 8 }, func(c *api.Conf) { c.Nodes = 6 }, func(c *api.Conf) { c.Half = 4 },
		func(c *api.Conf) { c.Blocks = 0 }, func(c *api.Conf) { c.Blocks = 257 }, func(c *api.Conf) { c.Voters = 0 }, func(c *api.Conf) { c.Voters = 8 },
		func(c *api.Conf) { c.Clients = 0 }, func(c *api.Conf) { c.Clients = 5 }, func(c *api.Conf) { c.Room = 0 }, func(c *api.Conf) { c.Room = 1<<16 + 1 },
		func(c *api.Conf) { c.Rules.Cap = 1<<30 + 1 }, func(c *api.Conf) { c.Nodes, c.Half = 6, 2 }, func(c *api.Conf) { *c = api.Conf{} },
	} {
		c := most
		if spoil(&c); node.May(c) {
			t.Errorf("spoilt by %d: %v may be", i, c)
		}
	}
	if c := (api.Conf{Nodes: 2, Half: 1, Blocks: 1, Voters: 1, Clients: 1, Room: 1}); node.May(c) {
		t.Errorf("%v may be", c)
	}
}

// P13.1: what Format refuses, and in which order; nothing is done then.
func TestFormatRefuses(t *testing.T) {
	d, _ := disk.New(4000)
	spoilt := three()
	spoilt.Voters = 4
	for _, x := range []struct {
		d    *disk.Disk
		self int
		c    api.Conf
		want api.Errno
	}{
		{d, 0, spoilt, api.ErrArg}, {d, -1, three(), api.ErrArg}, {d, 3, three(), api.ErrArg}, {d, math.MaxInt, three(), api.ErrArg}, {d, math.MinInt, three(), api.ErrArg},
		{nil, 3, three(), api.ErrArg}, {nil, 0, api.Conf{}, api.ErrArg}, {nil, 0, three(), api.ErrNone},
	} {
		if e := node.Format(x.d, x.self, x.c); e != x.want {
			t.Errorf("Format of %d, %v: error %d and not %d", x.self, x.c, e, x.want)
		}
	}
	if d.Used() > 0 {
		t.Error("it has laid something")
	}
	if _, e := node.Open(d, 0); e != api.ErrNone {
		t.Errorf("Open of nothing: error %d", e)
	}
}

// P13.1: the journal's errors.
func TestFormatOnBadDevices(t *testing.T) {
	small, _ := disk.New(1)
	c := api.Conf{Nodes: 3, Half: 1, Blocks: 256, Voters: 3, Clients: 1, Room: 1}
	if e := node.Format(small, 0, c); e != api.ErrFull {
		t.Errorf("a small device: error %d", e)
	}
	off, _ := disk.New(100)
	off.Stop(1)
	if e := node.Format(off, 0, three()); e != api.ErrTorn {
		t.Errorf("a power that goes: error %d", e)
	}
	if _, e := node.Open(off, 0); e != api.ErrTorn {
		t.Errorf("a device that is off: error %d", e)
	}
	if n, e := node.Open(nil, 0); n != nil || e != api.ErrNone {
		t.Errorf("no device: error %d", e)
	}
}

// P13.1: Format lays a node anew, whatever lay there; the room of the device is the device's.
func TestFormatAgain(t *testing.T) {
	n, d := begins(t, 0, alone())
	n.Hear(asks(0, 1, write(0, 1, 0, "a")))
	c := alone()
	c.Blocks, c.Room = 3, 1
	if e := node.Format(d, 0, c); e != api.OK {
		t.Fatalf("error %d", e)
	}
	n = opens(t, d, 0)
	stores(t, "anew", n, 1, store(t, 0, 3))
}

// P13.1: what isn't the node's own isn't opened.
func TestOpenOfOthers(t *testing.T) {
	d := formatted(t, 1, three())
	for _, self := range []int{0, 2, 3, -1, math.MaxInt, math.MinInt} {
		if n, e := node.Open(d, self); n != nil || e != api.ErrCode {
			t.Errorf("Open as %d: error %d", self, e)
		}
	}
	opens(t, d, 1)
	for _, image := range []string{"", "x", "\x00\x00", "\x00\x00\x00\x01\x00\x00\x00\x08", "an image of something else"} {
		d, _ := disk.New(100)
		if _, e := journal.Format(d, []byte(image)); e != api.OK {
			t.Fatal(e)
		}
		if n, e := node.Open(d, 0); n != nil || e != api.ErrCode {
			t.Errorf("an image %q: error %d", image, e)
		}
	}
}

// P13.1: whatever bytes are laid there, Open refuses them, or has a node, and never anything else.
func TestOpenOfSpoiltBytes(t *testing.T) {
	d := newDice(131)
	n, laid := begins(t, 0, four())
	n.Hear(asks(0, 1, write(0, 1, 0, "a")))
	n.Hear(commit(1, 0, 1, decided(1, 1, write(1, 1, 2, "b"), 1)))
	ticks(n, 10)
	n.Wish(split(1, 4))
	j, e := journal.Open(laid)
	if e != api.OK || j.Count() < 5 {
		t.Fatalf("error %d, %d records", e, j.Count())
	}
	opened := 0
	for range 6000 {
		image, records := j.Image(), j.Records()
		at := d.Intn(len(records) + 1)
		b := &image
		if at < len(records) && d.Intn(3) > 0 {
			b = &records[at]
		}
		switch i := d.Intn(len(*b)); d.Intn(4) {
		case 0:
			(*b)[i] ^= 1 << d.Intn(8)
		case 1:
			*b = (*b)[:i]
		case 2:
			*b = append(*b, byte(d.Intn(3)))
		case 3:
			*b = slices.Insert(*b, i, byte(d.Intn(256)))
		}
		if opensAnyhow(t, image, records) {
			opened++
		}
	}
	if opened < 50 || opened > 3000 {
		t.Errorf("the draws are dull: %d were opened", opened)
	}
}

// opensAnyhow: is there a node in an image and records? If so, it may be used.
func opensAnyhow(t *testing.T, image []byte, records [][]byte) bool {
	t.Helper()
	spoilt, _ := disk.New(4000)
	k, e := journal.Format(spoilt, image)
	if e != api.OK {
		t.Fatal(e)
	}
	for _, r := range records {
		k.Add(r)
	}
	n, e := node.Open(spoilt, 0)
	if e != api.OK && (e != api.ErrCode || n != nil) {
		t.Fatalf("error %d", e)
	}
	if e != api.OK {
		return false
	}
	ticks(n, 20)
	for _, s := range n.Hosts() {
		n.Insts(s)
		n.Hear(asks(0, s, read(0, 9, 0, 1)))
	}
	n.Map()
	return true
}

// P13.2: the map, and the shards, at first.
func TestAtFirst(t *testing.T) {
	for _, c := range []api.Conf{alone(), three(), four(), {Nodes: 7, Half: 2, Blocks: 256, Voters: 2, Clients: 1, Room: 100}, {Nodes: 3, Half: 0, Blocks: 1, Voters: 3, Clients: 1, Room: 100}} {
		for self := range c.Nodes {
			n, d := begins(t, self, c)
			has(t, "at first", n, atFirst(t, c))
			if self <= 2*c.Half {
				hosts(t, "a member", n, 1)
				stores(t, "a member", n, 1, store(t, 0, c.Blocks))
			} else {
				hosts(t, "no member", n)
				stores(t, "no member", n, 1, nil)
			}
			if len(n.Log(1))+len(n.Insts(1))+len(n.Since(1, 0)) > 0 || n.Leads() || n.Down() {
				t.Errorf("%d: something has happened", self)
			}
			has(t, "opened again", opens(t, d, self), atFirst(t, c))
		}
	}
}

// P13.2: the voters at first: each of them begins an election in its turn, and nobody else does.
func TestVotersAtFirst(t *testing.T) {
	c := api.Conf{Nodes: 5, Half: 1, Blocks: 4, Voters: 3, Clients: 1, Room: 100}
	for self := range c.Nodes {
		n, _ := begins(t, self, c)
		var voters []int
		for i := range 40 {
			l := of(n.Tick(), api.MailVote)
			if len(l) > 0 && (i+1)%(10+3*self) > 0 {
				t.Fatalf("%d begins an election with tick %d", self, i+1)
			}
			for _, m := range l {
				voters = append(voters, m.To)
			}
		}
		slices.Sort(voters)
		want := slices.DeleteFunc([]int{0, 1, 2}, func(v int) bool { return v == self || self > 2 })
		if self > 2 {
			want = nil
		}
		if !slices.Equal(slices.Compact(voters), want) {
			t.Errorf("%d asks %v for their votes", self, voters)
		}
	}
}

// P13.1: a node that is opened has all clocks at 0, and what it had kept.
func TestOpenClocks(t *testing.T) {
	for at := range 12 {
		n, d := begins(t, 0, three())
		ticks(n, at)
		n = opens(t, d, 0)
		for i := 1; i <= 12; i++ {
			l := n.Tick()
			if maps := len(of(l, api.MailMap)); (maps > 0) != (i%6 == 0) {
				t.Fatalf("opened behind %d ticks: %d maps with tick %d", at, maps, i)
			}
			if votes := len(of(l, api.MailVote)); (votes > 0) != (i == 10) {
				t.Fatalf("opened behind %d ticks: %d votes with tick %d", at, votes, i)
			}
		}
	}
}

// Rule 4: what is handed in isn't kept, and what is told is new memory.
func TestCopies(t *testing.T) {
	n, _ := begins(t, 0, alone())
	texts := []string{"a", "b"}
	n.Hear(asks(0, 1, write(0, 1, 0, texts...)))
	texts[0] = "spoilt"
	s := n.Store(1)
	s.Apply(freeze())
	n.Map().Apply(split(1, 3))
	n.Log(1)[0].Cmd.Data[0] = "spoilt"
	n.Insts(1)[0].Cmd.Data[0] = "spoilt"
	want := store(t, 0, 8, write(0, 1, 0, "a", "b"))
	stores(t, "behind changes of what was told", n, 1, want)
	has(t, "behind changes of what was told", n, atFirst(t, alone()))
	if x := n.Insts(1)[0].Cmd.Data[0] + n.Log(1)[0].Cmd.Data[0]; x != "aa" {
		t.Errorf("it tells %q", x)
	}
}
