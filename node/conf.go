package node

import (
	"lamella/api"
	"lamella/atlas"
	"lamella/blocks"
	"lamella/council"
	"lamella/disk"
	"lamella/journal"
	"lamella/warden"
)

// May: P13.1.
func May(c api.Conf) bool {
	return isFrom(1, c.Nodes, api.MaxNodes) && isFrom(0, c.Half, (c.Nodes-1)/2) &&
		isFrom(1, c.Blocks, api.MaxBlocks) && isFrom(1, c.Voters, c.Nodes) &&
		isFrom(1, c.Clients, api.MaxClients) && isFrom(1, c.Room, api.MaxRoom) && warden.May(c.Rules)
}

// isFrom: is a number from least to most?
func isFrom(least, number, most int) bool { return number >= least && number <= most }

// Format: P13.1.
func Format(d *disk.Disk, self int, c api.Conf) api.Errno {
	if !May(c) || !isFrom(0, self, c.Nodes-1) {
		return api.ErrArg
	}
	_, e := journal.Format(d, first(self, c).layImage())
	return e
}

// first is a node as it is at first: P13.2.
func first(self int, c api.Conf) *Node {
	n := begun(self, c)
	n.council, _ = council.New(self, upTo(c.Voters))
	n.base, _ = atlas.New(c.Blocks, upTo(2*c.Half+1))
	n.told, n.atlas = n.base.Clone(), n.base.Clone()
	n.rehost()
	for _, h := range n.all() {
		s, _ := blocks.New(h.origin.Span)
		n.begin(h, s, nil)
	}
	return n
}

// upTo is so many nodes, the lowest ones.
func upTo(count int) []int {
	var l []int
	for node := range count {
		l = append(l, node)
	}
	return l
}

// begun is a node that knows of nothing yet.
func begun(self int, c api.Conf) *Node {
	return &Node{
		self: self, conf: c, hosts: map[int]*host{}, lasts: map[int]*blocks.Store{},
		installed: map[int][api.MaxNodes]bool{}, loads: map[int]api.Load{},
	}
}

// Open: P13.1. A device that another node has kept is refused, too: who took part by its promises would be two nodes.
func Open(d *disk.Disk, self int) (*Node, api.Errno) {
	j, e := journal.Open(d)
	if e != api.OK {
		return nil, e
	}
	image := j.Image()
	k, ok := takeImage(image)
	for _, r := range j.Records() {
		ok = ok && k.take(r)
	}
	if !ok || k.self != self {
		return nil, api.ErrCode
	}
	n, ok := k.wake()
	if !ok {
		return nil, api.ErrCode
	}
	n.journal, n.room, n.size = j, d.Room(), len(image)+frameBytes
	return n, api.OK
}
