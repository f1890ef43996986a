package blocks

import (
	"slices"
	"strings"

	"lamella/api"
	"lamella/octet"
	"lamella/span"
)

// isText: P5.1.
func isText(s string) bool {
	return len(s) <= api.BlockSize && !strings.HasSuffix(s, "\x00")
}

// spanOf is the blocks of a command.
func spanOf(c api.Cmd) api.Span { return api.Span{From: c.From, To: c.To} }

// isClients: is it what a client asks for?
func isClients(op int) bool {
	return op == api.OpRead || op == api.OpWrite || op == api.OpTrim || op == api.OpFlush
}

// May: P5.2.
func May(c api.Cmd) bool {
	switch {
	case c.Op == api.OpNone || c.Op == api.OpFreeze:
		return c.Client == 0 && c.Seq == 0 && c.From == 0 && c.To == 0 && len(c.Data) == 0
	case isClients(c.Op):
		return mayAsk(c) && mayCarry(c)
	}
	return false
}

// mayAsk: are the client, its number and the blocks such as may be?
func mayAsk(c api.Cmd) bool {
	return c.Client >= 0 && c.Client < api.MaxClients &&
		c.Seq >= 1 && c.Seq <= api.MaxSeq &&
		mayBe(spanOf(c)) && c.To-c.From <= api.MaxSpan
}

// mayCarry: has it the texts that it must have?
func mayCarry(c api.Cmd) bool {
	if c.Op != api.OpWrite {
		return len(c.Data) == 0
	}
	noText := func(s string) bool { return !isText(s) }
	return len(c.Data) == c.To-c.From && !slices.ContainsFunc(c.Data, noText)
}

// Meddle: P5.2.
func Meddle(a, b api.Cmd) bool {
	switch {
	case a.Op == api.OpNone || b.Op == api.OpNone:
		return false
	case a.Op == api.OpFreeze || b.Op == api.OpFreeze:
		return true
	case a.Client == b.Client:
		return true
	}
	return span.Touch(spanOf(a), spanOf(b)) && !(leaves(a.Op) && leaves(b.Op))
}

// leaves: does it leave blocks as they are?
func leaves(op int) bool { return op == api.OpRead || op == api.OpFlush }

// Lay: P5.6.
func Lay(w *octet.Writer, c api.Cmd) {
	w.Byte(byte(c.Op))
	for _, n := range []int{c.Client, c.Seq, c.From, c.To} {
		w.Int(int64(n))
	}
	octet.Put(w, c.Data, (*octet.Writer).Text)
}

// Take: P5.6.
func Take(r *octet.Reader) api.Cmd {
	c := api.Cmd{Op: int(r.Byte())}
	for _, n := range []*int{&c.Client, &c.Seq, &c.From, &c.To} {
		*n = int(r.Int())
	}
	c.Data = octet.Get(r, (*octet.Reader).Text)
	if r.Bad() {
		return api.Cmd{}
	}
	return c
}
