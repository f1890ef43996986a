package insts

import (
	"lamella/api"
	"lamella/blocks"
	"lamella/octet"
)

// Lay: P7.2.
func Lay(w *octet.Writer, x api.Inst) {
	for _, n := range heads(&x) {
		w.Int(int64(*n))
	}
	w.Bool(x.Same)
	blocks.Lay(w, x.Cmd)
	w.Int(int64(x.Seq))
	octet.Put(w, x.Deps, layRef)
}

// Take: P7.2.
func Take(r *octet.Reader) api.Inst {
	var x api.Inst
	for _, n := range heads(&x) {
		*n = int(r.Int())
	}
	x.Same = r.Bool()
	x.Cmd = blocks.Take(r)
	x.Seq = int(r.Int())
	x.Deps = octet.Get(r, takeRef)
	if r.Bad() {
		return api.Inst{}
	}
	return x
}

// heads are the numbers that an instance begins with: Lay and Take go through them in one order.
func heads(x *api.Inst) []*int {
	return []*int{
		&x.Ref.Lead, &x.Ref.Index,
		&x.Ballot.N, &x.Ballot.Node,
		&x.Vote.N, &x.Vote.Node,
		&x.Status,
	}
}

func layRef(w *octet.Writer, r api.Ref) {
	w.Int(int64(r.Lead))
	w.Int(int64(r.Index))
}

func takeRef(r *octet.Reader) api.Ref {
	lead := r.Int()
	index := r.Int()
	return api.Ref{Lead: int(lead), Index: int(index)}
}
