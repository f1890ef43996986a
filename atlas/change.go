package atlas

import (
	"slices"

	"lamella/api"
)

// most is the greatest number at which a change still begins; the one that it makes may be greater by two.
const most = 1 << 30

// Apply: P11.3.
func (a *Atlas) Apply(c api.Change) api.Errno {
	if a == nil {
		return api.ErrNone
	}
	if !isKind(c.Kind) || c != named(c) {
		return api.ErrArg
	}
	if c.Kind == api.ChangeSettle {
		return a.settle()
	}
	past, e := a.gone(c)
	if e != api.OK {
		return e
	}
	if !fits(c, past) {
		return api.ErrArg
	}
	if a.next > most || a.epoch > most {
		return api.ErrBig
	}
	a.exchange(past, spans(c, past), members(c, past[0]))
	return api.OK
}

func isKind(kind int) bool { return kind >= api.ChangeSplit && kind <= api.ChangeSettle }

// named is c with those fields alone that its Kind names.
func named(c api.Change) api.Change {
	switch c.Kind {
	case api.ChangeSplit:
		return api.Change{Kind: c.Kind, Shard: c.Shard, At: c.At}
	case api.ChangeMerge:
		return api.Change{Kind: c.Kind, Shard: c.Shard, Other: c.Other}
	case api.ChangeReplace:
		return api.Change{Kind: c.Kind, Shard: c.Shard, Out: c.Out, In: c.In}
	case api.ChangeRenew:
		return api.Change{Kind: c.Kind, Shard: c.Shard}
	}
	return api.Change{Kind: c.Kind}
}

func (a *Atlas) settle() api.Errno {
	if len(a.open) == 0 {
		return api.ErrNone
	}
	a.open = nil
	return api.OK
}

// gone: the shards that c takes away, in the order in which it names them.
func (a *Atlas) gone(c api.Change) ([]api.Shard, api.Errno) {
	if len(a.open) > 0 {
		return nil, api.ErrDown
	}
	ids := []int{c.Shard}
	if c.Kind == api.ChangeMerge {
		ids = append(ids, c.Other)
	}
	var l []api.Shard
	for _, id := range ids {
		s, ok := a.shards[id]
		if !ok {
			return nil, api.ErrNone
		}
		l = append(l, s)
	}
	return l, api.OK
}

// fits: can c be done to these shards? Where it can, they rise by their blocks.
func fits(c api.Change, past []api.Shard) bool {
	s := past[0]
	switch c.Kind {
	case api.ChangeSplit:
		return c.At > s.Span.From && c.At < s.Span.To
	case api.ChangeMerge:
		return past[1].Span.From == s.Span.To
	case api.ChangeReplace:
		return slices.Contains(s.Members, c.Out) && !slices.Contains(s.Members, c.In) && isNode(c.In)
	}
	return true
}

// spans: the blocks of the shards that c makes of these, rising.
func spans(c api.Change, past []api.Shard) []api.Span {
	all := api.Span{From: past[0].Span.From, To: past[len(past)-1].Span.To}
	if c.Kind == api.ChangeSplit {
		return []api.Span{{From: all.From, To: c.At}, {From: c.At, To: all.To}}
	}
	return []api.Span{all}
}

// members: those that the shards have that c makes of s. One that comes in may have another place than the one that goes, for they rise.
func members(c api.Change, s api.Shard) []int {
	l := slices.Clone(s.Members)
	if c.Kind == api.ChangeReplace {
		l[slices.Index(l, c.Out)] = c.In
		slices.Sort(l)
	}
	return l
}

// exchange puts new shards where the past ones were.
func (a *Atlas) exchange(past []api.Shard, anew []api.Span, members []int) {
	var origins []api.Origin
	for _, s := range past {
		origins = append(origins, origin(s))
		delete(a.shards, s.Id)
	}
	for _, s := range anew {
		a.keep(api.Shard{Id: a.next, Span: s, Members: members, Past: origins})
		a.open = append(a.open, a.next)
		a.next++
	}
	a.epoch++
}

// origin is what later shards know of s.
func origin(s api.Shard) api.Origin {
	return api.Origin{Id: s.Id, Span: s.Span, Members: s.Members}
}
