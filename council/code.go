package council

import (
	"lamella/api"
	"lamella/octet"
)

// The greatest number that may be, and how many bytes the text of an entry has at most.
const (
	mostNumber = 1 << 40
	mostText   = 4096
)

// The kinds of entries.
const (
	kindNone = iota
	kindChange
	kindVoters
)

// Voters: P10.1.
func Voters(text string) ([]int, bool) {
	var l []int
	for i := range len(text) {
		l = append(l, int(text[i]))
	}
	if !mayVoters(l) {
		return nil, false
	}
	return l, true
}

// voterText is the text that names the voters; false, if they aren't such.
func voterText(voters []int) (string, bool) {
	if !mayVoters(voters) {
		return "", false
	}
	var b []byte
	for _, n := range voters {
		b = append(b, byte(n))
	}
	return string(b), true
}

// mayVoters: are they nodes, rising, at least one?
func mayVoters(l []int) bool {
	for i, n := range l {
		if !isNode(n) || i > 0 && l[i-1] >= n {
			return false
		}
	}
	return len(l) > 0
}

// Encode: P10.2.
func (c *Council) Encode() []byte {
	if c == nil {
		return nil
	}
	w := &octet.Writer{}
	for _, n := range c.numbers() {
		w.Int(int64(*n))
	}
	w.Text(c.base.voters)
	w.Text(c.base.text)
	octet.Put(w, c.log, layEntry)
	return w.Bytes()
}

// Load: P10.2.
func Load(self int, b []byte) (*Council, api.Errno) {
	if !isNode(self) {
		return nil, api.ErrArg
	}
	c := fresh(self)
	r := octet.NewReader(b)
	for _, n := range c.numbers() {
		*n = int(r.Int())
	}
	c.base.voters = r.Text()
	c.base.text = r.Text()
	c.log = octet.Get(r, takeEntry)
	if !r.End() || !c.may() {
		return nil, api.ErrCode
	}
	c.told = c.base.index
	return c, api.OK
}

// numbers are those that the bytes begin with: Encode and Load go through them in one order.
func (c *Council) numbers() []*int {
	return []*int{&c.term, &c.vote, &c.base.index, &c.base.term}
}

func layEntry(w *octet.Writer, e api.Entry) {
	w.Int(int64(e.Term))
	w.Int(int64(e.Kind))
	w.Text(e.Text)
}

func takeEntry(r *octet.Reader) api.Entry {
	var e api.Entry
	e.Term = int(r.Int())
	e.Kind = int(r.Int())
	e.Text = r.Text()
	return e
}

// may: may that be kept?
func (c *Council) may() bool {
	_, ok := Voters(c.base.voters)
	return ok && areNumbers(c.term, c.base.index, c.base.term) && (c.vote == nobody || isNode(c.vote)) &&
		mayFollow(c.base.term, c.term, c.log)
}

// areNumbers: are they from 0 to the greatest one?
func areNumbers(l ...int) bool {
	for _, n := range l {
		if n < 0 || n > mostNumber {
			return false
		}
	}
	return true
}

// mayFollow: are they entries behind one of the term past, whose terms don't fall, none of them, nor past, above term?
func mayFollow(past, term int, l []api.Entry) bool {
	if len(l) > api.MaxList {
		return false
	}
	for _, e := range l {
		if e.Term < past || !mayEntry(e.Kind, e.Text) {
			return false
		}
		past = e.Term
	}
	return past <= term
}

// mayEntry: can an entry be of that kind with that text?
func mayEntry(kind int, text string) bool {
	if len(text) > mostText {
		return false
	}
	switch kind {
	case kindNone, kindChange:
		return true
	case kindVoters:
		_, ok := Voters(text)
		return ok
	}
	return false
}
