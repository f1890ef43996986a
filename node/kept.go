package node

import (
	"slices"

	"lamella/api"
	"lamella/atlas"
	"lamella/blocks"
	"lamella/council"
	"lamella/insts"
	"lamella/octet"
)

// kept is what lies on a device.
type kept struct {
	self        int
	conf        api.Conf
	council     []byte
	base, atlas *atlas.Atlas
	shards      map[int]*keptShard // those that are hosted
}

// keptShard is what is kept of a shard: as much of its base as stands there, the base, if that is all of it, and its instances.
type keptShard struct {
	origin     api.Origin
	part, base *blocks.Store
	table      *insts.Table
}

// takeImage takes what layImage lays.
func takeImage(b []byte) (*kept, bool) {
	k := &kept{}
	r := octet.NewReader(b)
	k.self = int(r.Int())
	for _, x := range numbers(&k.conf) {
		*x = int(r.Int())
	}
	ok := May(k.conf) && isFrom(0, k.self, k.conf.Nodes-1) && k.takeCouncil(r) && k.takeMap(r)
	octet.Get(r, func(r *octet.Reader) int {
		ok = ok && k.takeShard(r)
		return 0
	})
	return k, ok && r.End()
}

func (k *kept) takeCouncil(r *octet.Reader) bool {
	k.council = []byte(r.Text())
	if _, e := council.Load(k.self, k.council); e != api.OK {
		return false
	}
	base, ok := takeMap(r.Text(), k.conf.Blocks)
	k.base = base
	return ok
}

// takeMap takes a map, and lets go the shards that aren't hosted any more by it.
func (k *kept) takeMap(r *octet.Reader) bool {
	a, ok := takeMap(r.Text(), k.conf.Blocks)
	if !ok {
		return false
	}
	had := k.shards
	k.atlas, k.shards = a, map[int]*keptShard{}
	for _, h := range hosted(a, k.self) {
		s, in := had[h.origin.Id]
		if !in || !sameOrigin(s.origin, h.origin) {
			s = &keptShard{origin: h.origin}
		}
		k.shards[h.origin.Id] = s
	}
	return true
}

// takeShard takes an installed shard of an image.
func (k *kept) takeShard(r *octet.Reader) bool {
	s, ok := k.takeBase(r)
	if !ok || s.base == nil {
		return false
	}
	for _, x := range octet.Get(r, insts.Take) {
		ok = ok && s.table.Put(x) == api.OK
	}
	return ok
}

// takeBase takes a part of what a shard begins with.
func (k *kept) takeBase(r *octet.Reader) (*keptShard, bool) {
	s, in := k.shards[int(r.Int())]
	part, e := blocks.Decode([]byte(r.Text()))
	if !in || e != api.OK {
		return nil, false
	}
	return s, s.grow(part)
}

// grow puts a part behind those that stand there. The first one takes the place of them all: they are of a time when the last one wasn't kept.
func (s *keptShard) grow(part *blocks.Store) bool {
	if part.Span().From != s.origin.Span.From {
		part, _ = blocks.Merge(s.part, part)
	}
	if s.base != nil || part == nil || part.Frozen() || part.Span().To > s.origin.Span.To {
		return false
	}
	s.part = part
	if part.Span() == s.origin.Span {
		s.base, s.table = part, insts.New()
	}
	return true
}

// takeInst takes an instance of an installed shard.
func (k *kept) takeInst(r *octet.Reader) bool {
	s, in := k.shards[int(r.Int())]
	return in && s.table.Put(insts.Take(r)) == api.OK
}

// take goes on with a record.
func (k *kept) take(record []byte) bool {
	r := octet.NewReader(record)
	ok := false
	switch r.Byte() {
	case keptCouncil:
		ok = k.takeCouncil(r)
	case keptMap:
		ok = k.takeMap(r)
	case keptBase:
		_, ok = k.takeBase(r)
	case keptInst:
		ok = k.takeInst(r)
	}
	return ok && r.End()
}

// wake is the node that has kept that; false, if none can have.
func (k *kept) wake() (*Node, bool) {
	c, e := council.Load(k.self, k.council)
	if e != api.OK {
		return nil, false
	}
	n := begun(k.self, k.conf)
	n.council, n.based = c, c.Told()
	n.base, n.told, n.atlas = k.base, k.base.Clone(), k.atlas
	n.rehost()
	for _, h := range n.all() {
		s := k.shards[h.origin.Id]
		if s.base != nil && !n.begin(h, s.base, slices.Collect(s.table.Each())) {
			return nil, false
		}
	}
	return n, true
}
