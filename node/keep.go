package node

import (
	"lamella/api"
	"lamella/blocks"
	"lamella/insts"
	"lamella/octet"
)

// frameBytes is what a frame has beside its data.
const frameBytes = 8

// The kinds of records.
const (
	keptCouncil = iota + 1
	keptMap
	keptBase
	keptInst
)

// mostPart is how many blocks of a base are in one record at most: all blocks of a disk may be more than a record has room for.
const mostPart = 64

// record asks for a record to be kept.
func (n *Node) record(kind byte, lay func(w *octet.Writer)) {
	n.asked.records = append(n.asked.records, recordOf(kind, lay))
}

func recordOf(kind byte, lay func(w *octet.Writer)) []byte {
	w := &octet.Writer{}
	w.Byte(kind)
	lay(w)
	return w.Bytes()
}

func (n *Node) recordMap() {
	n.record(keptMap, func(w *octet.Writer) { w.Text(string(n.atlas.Encode())) })
}

func (n *Node) recordInst(shard int, x api.Inst) {
	n.record(keptInst, func(w *octet.Writer) {
		w.Int(int64(shard))
		insts.Lay(w, x)
	})
}

// recordBase keeps what a shard begins with; it is installed with the last part.
func (n *Node) recordBase(shard int, s *blocks.Store) {
	for at := s.Span().From; at < s.Span().To; at += mostPart {
		part, _ := s.Part(api.Span{From: at, To: min(at+mostPart, s.Span().To)})
		n.record(keptBase, func(w *octet.Writer) {
			w.Int(int64(shard))
			w.Text(string(part.Encode()))
		})
	}
}

// layCouncil lays the council's state, and the map behind its base: its text may be none.
func (n *Node) layCouncil(w *octet.Writer) {
	w.Text(string(n.council.Encode()))
	w.Text(string(n.base.Encode()))
}

// keep makes sure what the call asks to be kept. The council's state stands first: a map must not stay without the entries that it follows from.
func (n *Node) keep() {
	l := n.asked.records
	if n.asked.council {
		l = append([][]byte{recordOf(keptCouncil, n.layCouncil)}, l...)
	}
	if len(l) == 0 || !n.isRoomy(l) && n.exchange() {
		return
	}
	for _, r := range l {
		n.must(n.journal.Add(r))
	}
	n.must(n.journal.Sync())
}

// must ends the call, if something is wrong with the device.
func (n *Node) must(e api.Errno) {
	if e != api.OK {
		panic(fault{e})
	}
}

// isRoomy: is there, behind these records, still room for an image in the place of all? It has about as many bytes as what it stands for. Later there would be no room for it beside what it is exchanged for.
func (n *Node) isRoomy(l [][]byte) bool {
	log := n.journal.Size()
	for _, r := range l {
		log += len(r) + frameBytes
	}
	return sectors(n.size)+sectors(log)+sectors(n.size+log) <= n.room
}

func sectors(bytes int) int { return (bytes + api.Sector - 1) / api.Sector }

// exchange puts an image of all that counts in the place of what lies there; false, and nothing, if there is no room for one.
func (n *Node) exchange() bool {
	image := n.layImage()
	e := n.journal.Save(image)
	if e == api.ErrFull || e == api.ErrBig {
		return false
	}
	n.must(e)
	n.size = len(image) + frameBytes
	return true
}

// numbers are those of a cluster, in the order in which they are laid.
func numbers(c *api.Conf) []*int {
	r := &c.Rules
	return []*int{&c.Nodes, &c.Half, &c.Blocks, &c.Voters, &c.Clients, &c.Room, &r.Hot, &r.Cold, &r.Long, &r.Mute, &r.Cap}
}

// layImage is all that counts.
func (n *Node) layImage() []byte {
	w := &octet.Writer{}
	w.Int(int64(n.self))
	c := n.conf
	for _, x := range numbers(&c) {
		w.Int(int64(*x))
	}
	n.layCouncil(w)
	w.Text(string(n.atlas.Encode()))
	octet.Put(w, n.here(), func(w *octet.Writer, h *host) {
		w.Int(int64(h.origin.Id))
		w.Text(string(h.base.Encode()))
		octet.Put(w, h.replica.Insts(), insts.Lay)
	})
	return w.Bytes()
}
