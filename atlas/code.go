package atlas

import (
	"lamella/api"
	"lamella/octet"
)

// mostPast is of how many shards a new one is made at most.
const mostPast = 2

// Lay: P11.4.
func Lay(c api.Change) string {
	w := &octet.Writer{}
	for _, n := range []int{c.Kind, c.Shard, c.Other, c.At, c.Out, c.In} {
		w.Int(int64(n))
	}
	return string(w.Bytes())
}

// Take: P11.4.
func Take(s string) (api.Change, api.Errno) {
	r := octet.NewReader([]byte(s))
	var c api.Change
	for _, n := range []*int{&c.Kind, &c.Shard, &c.Other, &c.At, &c.Out, &c.In} {
		*n = int(r.Int())
	}
	if !r.End() {
		return api.Change{}, api.ErrCode
	}
	return c, api.OK
}

// Encode: P11.4.
func (a *Atlas) Encode() []byte {
	if a == nil {
		return nil
	}
	w := &octet.Writer{}
	layNum(w, a.blocks)
	layNum(w, a.epoch)
	layNum(w, a.next)
	octet.Put(w, a.open, layNum)
	octet.Put(w, a.Shards(), layShard)
	return w.Bytes()
}

func layNum(w *octet.Writer, n int) { w.Num(uint64(n)) }

func layShard(w *octet.Writer, s api.Shard) {
	layOrigin(w, origin(s))
	octet.Put(w, s.Past, layOrigin)
}

func layOrigin(w *octet.Writer, o api.Origin) {
	layNum(w, o.Id)
	layNum(w, o.Span.From)
	layNum(w, o.Span.To)
	nodes := make([]byte, len(o.Members))
	for i, n := range o.Members {
		nodes[i] = byte(n)
	}
	w.Text(string(nodes))
}

// Decode: P11.4.
func Decode(b []byte) (*Atlas, api.Errno) {
	r := octet.NewReader(b)
	blocks, epoch, next := takeNum(r), takeNum(r), takeNum(r)
	open := octet.Get(r, takeNum)
	shards := octet.Get(r, takeShard)
	a := empty(blocks, epoch, next)
	if !r.End() || !a.isCounted() || !a.fill(shards) || !a.reopen(open) {
		return nil, api.ErrCode
	}
	return a, api.OK
}

// takeNum: a Num that is no int comes as a negative one, which is nowhere allowed.
func takeNum(r *octet.Reader) int { return int(r.Num()) }

func takeShard(r *octet.Reader) api.Shard {
	o := takeOrigin(r)
	return api.Shard{Id: o.Id, Span: o.Span, Members: o.Members, Past: octet.Get(r, takeOrigin)}
}

func takeOrigin(r *octet.Reader) api.Origin {
	o := api.Origin{Id: takeNum(r)}
	o.Span.From = takeNum(r)
	o.Span.To = takeNum(r)
	for _, n := range []byte(r.Text()) {
		o.Members = append(o.Members, int(n))
	}
	return o
}

// isCounted: may its numbers be?
func (a *Atlas) isCounted() bool {
	return a.blocks >= 1 && a.blocks <= api.MaxBlocks &&
		a.epoch >= 1 && a.epoch <= most+2 &&
		a.next > firstShard && a.next <= most+2
}

// fill keeps the shards, if these may be all of the map's.
func (a *Atlas) fill(shards []api.Shard) bool {
	end := 0
	for _, s := range shards {
		if _, twice := a.shards[s.Id]; twice || s.Id >= a.next || s.Span.From != end || !mayBe(s) {
			return false
		}
		a.keep(s)
		end = s.Span.To
	}
	return end == a.blocks
}

// mayBe: may a shard be so, wherever it stands?
func mayBe(s api.Shard) bool {
	if len(s.Past) > mostPast || !mayHaveBeen(origin(s)) {
		return false
	}
	for i, o := range s.Past {
		if o.Id >= s.Id || i > 0 && s.Past[i-1].Span.To != o.Span.From || !mayHaveBeen(o) {
			return false
		}
	}
	return true
}

// mayHaveBeen: may there have been such a shard?
func mayHaveBeen(o api.Origin) bool {
	return o.Id >= firstShard && o.Span.From >= 0 && o.Span.From < o.Span.To && IsMembers(o.Members)
}

// reopen opens shards, if these may be open.
func (a *Atlas) reopen(open []int) bool {
	for i, id := range open {
		if _, ok := a.shards[id]; !ok || i > 0 && open[i-1] >= id {
			return false
		}
	}
	a.open = open
	return true
}
