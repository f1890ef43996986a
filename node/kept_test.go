package node

import (
	"testing"

	"lamella/api"
	"lamella/blocks"
	"lamella/disk"
	"lamella/insts"
	"lamella/journal"
	"lamella/octet"
)

// laid is a device with an image and records.
func laid(t *testing.T, image []byte, records ...[]byte) *disk.Disk {
	t.Helper()
	d, _ := disk.New(4000)
	j, e := journal.Format(d, image)
	if e != api.OK {
		t.Fatalf("Format: error %d", e)
	}
	for _, r := range records {
		if e := j.Add(r); e != api.OK {
			t.Fatalf("Add: error %d", e)
		}
	}
	j.Sync()
	return d
}

// opens checks whether there is a node in an image and records.
func opens(t *testing.T, what string, want api.Errno, image []byte, records ...[]byte) *Node {
	t.Helper()
	n, e := Open(laid(t, image, records...), 0)
	if e != want || (n != nil) != (e == api.OK) {
		t.Fatalf("%s: error %d and not %d", what, e, want)
	}
	return n
}

// three is three nodes, all of them members and voters.
func three() api.Conf {
	return api.Conf{Nodes: 3, Half: 1, Blocks: 12, Voters: 3, Clients: 3, Room: 4000}
}

func inst(index int) api.Inst {
	return api.Inst{Ref: api.Ref{Lead: 1, Index: index}, Status: api.Done}
}

// instRecord keeps an instance of a shard.
func instRecord(shard int, x api.Inst) []byte {
	return recordOf(keptInst, func(w *octet.Writer) {
		w.Int(int64(shard))
		insts.Lay(w, x)
	})
}

// baseRecord keeps a part of a shard's base.
func baseRecord(t *testing.T, shard, from, to int, frozen bool) []byte {
	t.Helper()
	s, e := blocks.New(api.Span{From: from, To: to})
	if e != api.OK {
		t.Fatalf("blocks.New: error %d", e)
	}
	if frozen {
		s.Apply(api.Cmd{Op: api.OpFreeze})
	}
	return recordOf(keptBase, func(w *octet.Writer) {
		w.Int(int64(shard))
		w.Text(string(s.Encode()))
	})
}

// mapRecord keeps the map behind changes.
func mapRecord(l ...api.Change) []byte {
	n := first(0, three())
	for _, c := range l {
		n.atlas.Apply(c)
	}
	return recordOf(keptMap, func(w *octet.Writer) { w.Text(string(n.atlas.Encode())) })
}

// P13.1: an image that isn't a node's.
func TestOpenOfOtherImages(t *testing.T) {
	image := first(0, three()).layImage()
	opens(t, "a node's", api.OK, image)
	opens(t, "with more behind it", api.ErrCode, append(append([]byte(nil), image...), 0))
	opens(t, "cut off", api.ErrCode, image[:len(image)-1])
	for what, spoil := range map[string]func(n *Node){
		"a cluster that may not be":   func(n *Node) { n.conf.Nodes = 8 },
		"rules that may not be":       func(n *Node) { n.conf.Rules.Hot = -1 },
		"another node's":              func(n *Node) { n.self = 1 },
		"a map of other blocks":       func(n *Node) { n.conf.Blocks = 11 },
		"a shard that isn't hosted":   func(n *Node) { n.hosts[1].origin.Id = 2 },
		"a shard of other blocks":     func(n *Node) { n.hosts[1].base, _ = blocks.New(api.Span{From: 0, To: 11}) },
		"a shard of more blocks":      func(n *Node) { n.hosts[1].base, _ = blocks.New(api.Span{From: 0, To: 13}) },
		"a shard that begins further": func(n *Node) { n.hosts[1].base, _ = blocks.New(api.Span{From: 1, To: 12}) },
		"a frozen base":               func(n *Node) { n.hosts[1].base.Apply(api.Cmd{Op: api.OpFreeze}) },
		"a shard twice":               func(n *Node) { n.hosts[2] = n.hosts[1] },
	} {
		n := first(0, three())
		spoil(n)
		opens(t, what, api.ErrCode, n.layImage())
	}
	stranger := first(0, three())
	stranger.self, stranger.hosts = 5, nil
	if n, e := Open(laid(t, stranger.layImage()), 5); n != nil || e != api.ErrCode {
		t.Errorf("a node that the cluster hasn't: error %d", e)
	}
}

// P13.1: instances of an image that may not be.
func TestOpenOfOtherInstances(t *testing.T) {
	image := first(0, three()).layImage()
	// The last byte is how many instances the last shard has.
	with := func(l ...api.Inst) []byte {
		w := &octet.Writer{}
		octet.Put(w, l, insts.Lay)
		return append(append([]byte(nil), image[:len(image)-1]...), w.Bytes()...)
	}
	opens(t, "none", api.OK, with())
	n := opens(t, "two", api.OK, with(inst(1), inst(2)))
	if l := n.Log(1); len(l) != 2 {
		t.Errorf("executed: %v", l)
	}
	opens(t, "one that may not be", api.ErrCode, with(inst(1), inst(0)))
	far := inst(1)
	far.Ref.Lead = 4
	opens(t, "one of no member", api.ErrCode, with(far))
}

// P13.1: records that aren't a node's, whatever follows.
func TestOpenOfOtherRecords(t *testing.T) {
	image := first(0, three()).layImage()
	n := first(0, three())
	good := recordOf(keptCouncil, n.layCouncil)
	opens(t, "a node's", api.OK, image, good, instRecord(1, inst(1)), mapRecord(), instRecord(1, inst(2)))
	far := inst(1)
	far.Ref.Lead = 4
	for what, r := range map[string][]byte{
		"nothing": {}, "no kind": {0}, "another kind": {9}, "a kind alone": {keptMap},
		"a council's state with more behind it": append(recordOf(keptCouncil, n.layCouncil), 0),
		"no council's state": recordOf(keptCouncil, func(w *octet.Writer) {
			w.Text("none")
			w.Text(string(n.base.Encode()))
		}),
		"no map behind the base": recordOf(keptCouncil, func(w *octet.Writer) {
			w.Text(string(n.council.Encode()))
			w.Text("none")
		}),
		"no map":                          recordOf(keptMap, func(w *octet.Writer) { w.Text("none") }),
		"a map with more behind it":       append(mapRecord(), 0),
		"an instance that may not be":     instRecord(1, inst(0)),
		"an instance of no member":        instRecord(1, far),
		"an instance of no shard":         instRecord(2, inst(1)),
		"an instance cut off":             instRecord(1, inst(1))[:9],
		"a base of no shard":              baseRecord(t, 2, 0, 12, false),
		"a base of an installed shard":    baseRecord(t, 1, 0, 12, false),
		"no base":                         recordOf(keptBase, func(w *octet.Writer) { w.Int(1) }),
		"an instance with more behind":    append(instRecord(1, inst(1)), 0),
		"a part of an installed shard":    baseRecord(t, 1, 0, 4, false),
		"one that is no one's altogether": []byte("record"),
	} {
		opens(t, what, api.ErrCode, image, r)
		if what != "an instance of no member" {
			opens(t, what+", and more", api.ErrCode, image, r, good)
		}
	}
}

// P13.3: a shard is installed with the last part of its base, and with none ahead of it.
func TestOpenOfParts(t *testing.T) {
	image := first(0, three()).layImage()
	atlas := mapRecord(api.Change{Kind: api.ChangeSplit, Shard: 1, At: 2}, api.Change{Kind: api.ChangeSettle})
	part := func(from, to int) []byte { return baseRecord(t, 3, from, to, false) }
	for _, x := range []struct {
		what  string
		l     [][]byte
		want  api.Errno
		count int
	}{
		{"none", nil, api.OK, 0}, {"all", [][]byte{part(2, 12)}, api.OK, 1}, {"some", [][]byte{part(2, 5)}, api.OK, 0}, {"all of them", [][]byte{part(2, 5), part(5, 9), part(9, 12)}, api.OK, 1},
		{"once more", [][]byte{part(2, 5), part(5, 9), part(2, 5), part(5, 12)}, api.OK, 1}, {"once more, not all", [][]byte{part(2, 5), part(5, 9), part(2, 5)}, api.OK, 0},
		{"a gap", [][]byte{part(2, 5), part(6, 12)}, api.ErrCode, 0}, {"one twice", [][]byte{part(2, 5), part(4, 12)}, api.ErrCode, 0}, {"without the first one", [][]byte{part(5, 12)}, api.ErrCode, 0},
		{"too much", [][]byte{part(2, 13)}, api.ErrCode, 0}, {"too much at the end", [][]byte{part(2, 5), part(5, 13)}, api.ErrCode, 0}, {"frozen", [][]byte{baseRecord(t, 3, 2, 12, true)}, api.ErrCode, 0},
		{"frozen in part", [][]byte{baseRecord(t, 3, 2, 5, true), part(5, 12)}, api.ErrCode, 0}, {"more behind all", [][]byte{part(2, 12), part(2, 12)}, api.ErrCode, 0},
		{"an instance ahead", [][]byte{instRecord(3, inst(1)), part(2, 12)}, api.ErrCode, 0}, {"an instance behind some", [][]byte{part(2, 5), instRecord(3, inst(1))}, api.ErrCode, 0},
		{"an instance behind all", [][]byte{part(2, 5), part(5, 12), instRecord(3, inst(1))}, api.OK, 1}, {"of what is gone", [][]byte{instRecord(1, inst(1))}, api.ErrCode, 0},
	} {
		n := opens(t, x.what, x.want, image, append([][]byte{atlas}, x.l...)...)
		if len(n.Hosts()) != x.count {
			t.Errorf("%s: %v are installed", x.what, n.Hosts())
		}
	}
}
