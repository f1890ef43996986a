package blocks

import (
	"slices"

	"lamella/api"
	"lamella/octet"
)

// Encode: P5.6.
func (s *Store) Encode() []byte {
	if s == nil {
		return nil
	}
	w := &octet.Writer{}
	w.Num(uint64(s.span.From))
	w.Num(uint64(s.span.To))
	w.Bool(s.frozen)
	for _, k := range s.within(s.span) {
		w.Text(k.text)
		for _, seq := range k.marks {
			w.Num(uint64(seq))
		}
	}
	return w.Bytes()
}

// Decode: P5.6. The span is asked for ahead of the blocks, so that a false one makes nobody go through blocks that there can't be.
func Decode(b []byte) (*Store, api.Errno) {
	r := octet.NewReader(b)
	s := &Store{}
	s.span.From = int(r.Num())
	s.span.To = int(r.Num())
	s.frozen = r.Bool()
	if !mayBe(s.span) {
		return nil, api.ErrCode
	}
	for range s.span.To - s.span.From {
		s.cells = append(s.cells, takeCell(r))
	}
	if !r.End() || slices.ContainsFunc(s.cells, noBlock) {
		return nil, api.ErrCode
	}
	return s, api.OK
}

func takeCell(r *octet.Reader) cell {
	k := cell{text: r.Text()}
	for i := range k.marks {
		k.marks[i] = int(r.Num())
	}
	return k
}

// noBlock: can no block be so? (A Num that is no int comes as a negative one.)
func noBlock(k cell) bool {
	noMark := func(seq int) bool { return seq < 0 || seq > api.MaxSeq }
	return !isText(k.text) || slices.ContainsFunc(k.marks[:], noMark)
}
