package node_test

import (
	"math"
	"testing"

	"lamella/api"
	"lamella/node"
)

// P13.10: of a nil Node there is nothing; it is down.
func TestNil(t *testing.T) {
	var n *node.Node
	if !n.Down() || n.Leads() || n.Map() != nil || len(n.Hosts()) > 0 || n.Store(1) != nil || len(n.Log(1))+len(n.Since(1, 0))+len(n.Insts(1)) > 0 {
		t.Error("there is something")
	}
	if l := append(n.Tick(), n.Hear(asks(0, 1, write(0, 1, 0, "a")))...); len(l) > 0 {
		t.Errorf("it sends %v", l)
	}
	if l, e := n.Wish(split(1, 4)); len(l) > 0 || e != api.ErrNone {
		t.Errorf("Wish: error %d", e)
	}
	if l, e := n.Elect([]int{0}); len(l) > 0 || e != api.ErrNone {
		t.Errorf("Elect: error %d", e)
	}
}

// P13.10: of what isn't installed there is nothing.
func TestNotInstalled(t *testing.T) {
	n, _ := begins(t, 0, alone())
	n.Hear(asks(0, 1, write(0, 1, 0, "a")))
	n.Hear(asks(0, 1, read(0, 2, 0, 1)))
	for _, s := range []int{0, 2, -1, math.MaxInt, math.MinInt} {
		if n.Store(s) != nil || len(n.Log(s))+len(n.Since(s, 0))+len(n.Insts(s)) > 0 {
			t.Errorf("shard %d: there is something", s)
		}
	}
	l := n.Log(1)
	if len(l) != 2 || l[1].Reply.Data[0] != "a" || l[0].Ref != (api.Ref{Index: 1}) {
		t.Errorf("the log is %v", l)
	}
	for k, want := range map[int]int{0: 2, 1: 1, 2: 0, 3: 0, -1: 0, math.MaxInt: 0, math.MinInt: 0} {
		if l := n.Since(1, k); len(l) != want || want == 1 && l[0].Cmd.Op != api.OpRead {
			t.Errorf("since %d: %v", k, l)
		}
	}
	if l := n.Insts(1); len(l) != 2 || l[0].Status != api.Done || l[1].Seq != 2 {
		t.Errorf("the instances are %v", l)
	}
}

// P13.8: the council, the replicas, and all else go on with a tick.
func TestTick(t *testing.T) {
	n, _ := begins(t, 0, three())
	n.Hear(mapMail(behind(t, three(), split(1, 4)), 1, 0))
	n.Hear(state(1, 0, 2, store(t, 0, 4)))
	n.Hear(asks(0, 2, write(0, 1, 0, "a")))
	var kinds [40]int
	for i := 1; i <= 24; i++ {
		for _, m := range n.Tick() {
			kinds[m.Kind]++
			if m.From != 0 || m.To != 1 && m.To != 2 {
				t.Fatalf("it sends %v", m)
			}
		}
	}
	for _, k := range []int{api.MailPre, api.MailNext, api.MailVote, api.MailFetch, api.MailMap, api.MailInstalled} {
		if kinds[k] == 0 {
			t.Errorf("nothing of kind %d: %v", k, kinds)
		}
	}
}

// Rule 1: mails of any kind, with anything in them, are heard without harm, and what is sent is such as may be.
func TestAnyMails(t *testing.T) {
	d := newDice(132)
	numbers := []int{0, 1, 2, 3, 4, 5, 9, 100, 101, -1, 1 << 30, 1 << 40, math.MaxInt, math.MinInt}
	any := func() int { return numbers[d.Intn(len(numbers))] }
	small := func() int { return d.Intn(4) }
	texts := []string{"", "x", "\x00\x01", string(behind(t, three(), split(1, 4)).Encode()), string(behind(t, three(), renew(1), settle()).Encode()), string(store(t, 0, 12).Encode()), string(store(t, 0, 12, freeze()).Encode())}
	epochs := 0
	for range 150 {
		self := d.Intn(3)
		n, dev := begins(t, self, ruled(three(), api.Rules{Hot: 3, Cold: 1, Long: 9, Mute: 12, Cap: 9}))
		for range 150 {
			pick := small
			if d.Intn(4) == 0 {
				pick = any
			}
			m := api.Mail{Kind: 1 + d.Intn(34), From: pick(), To: self, Shard: 1 + d.Intn(3), Ok: d.Intn(2) == 0, Term: pick(), Index: pick(), Past: pick(), Commit: pick(), Epoch: pick(), Text: texts[d.Intn(len(texts))]}
			m.Inst = api.Inst{Ref: api.Ref{Lead: pick(), Index: pick()}, Ballot: api.Ballot{N: pick(), Node: pick()}, Status: small(), Seq: pick(), Cmd: write(d.Intn(5)-1, pick(), d.Intn(13)-1, "a")}
			if d.Intn(2) == 0 {
				m.Inst.Vote = m.Inst.Ballot
			}
			if m.Kind == api.MailRequest {
				m.From = 100 + m.Inst.Cmd.Client
			}
			if d.Intn(3) == 0 {
				m.Entries = []api.Entry{{Term: pick(), Kind: small(), Text: texts[d.Intn(len(texts))]}}
			}
			l := n.Hear(m)
			if d.Intn(3) == 0 {
				l = append(l, n.Tick()...)
			}
			for _, m := range l {
				if m.From != self || m.Kind < 1 || m.Kind > 33 {
					t.Fatalf("it sends %v", m)
				}
			}
		}
		isKept(t, n, dev, self)
		epochs += n.Map().Epoch()
	}
	if epochs < 200 {
		t.Errorf("the draws are dull: %d", epochs)
	}
}
