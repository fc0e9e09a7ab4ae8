package client_test

import (
	"fmt"
	"math/rand"
	"testing"

	"crier/api"
	"crier/client"
	"crier/conn"
)

// someWho tells a client.
func someWho(r *rand.Rand) api.Who {
	w := api.Who{Name: someOf(r, "a", "b/c", "é"), Clean: r.Intn(3) == 0, KeepAlive: someOf(r, -1, 0, 1, 2, 3, 5, 60), Window: someOf(r, -1, 1, 1, 2, 3, 5, 65533, 65534, 65535)}
	if w.Clean && r.Intn(3) == 0 {
		w.Name = ""
	}
	return w
}

// someMessage tells a message, a few of them wrong.
func someMessage(r *rand.Rand) api.Message {
	m := msg(someOf(r, "t", "t", "a/b", "$x", "é/"), someOf(r, "", "x", "yy", "some bytes"), someOf(r, 0, 1, 1, 2, 2))
	m.Retain = r.Intn(4) == 0
	switch r.Intn(40) {
	case 0:
		m.Topic = someOf(r, "", "a+", "#", "\xFF", "\x00")
	case 1:
		m.QoS = someOf(r, -1, 3, 1<<40)
	}
	return m
}

// someID tells a number, as a rule one that something under way, open or noted has.
func (m *model) someID(r *rand.Rand) int {
	switch n := r.Intn(10); {
	case n < 6 && len(m.under) > 0:
		return someOf(r, m.under...).ID
	case n < 8 && len(m.open) > 0:
		return someOf(r, m.open...)
	case n < 9 && len(m.came) > 0:
		return someOf(r, m.came...)
	}
	return someOf(r, 1, 2, 3, 4, 5, 6, 65535)
}

// someAnswer tells a packet that may come, few of them such as make it down.
func (m *model) someAnswer(r *rand.Rand) api.Packet {
	if r.Intn(60) == 0 {
		return someOf(r, kinds()[1:]...)
	}
	if m.phase == 1 && r.Intn(30) > 0 {
		if r.Intn(12) == 0 {
			return connack(1+r.Intn(5), false)
		}
		return connack(0, r.Intn(3) > 0)
	}
	switch r.Intn(10) {
	case 0, 1, 2:
		x := someMessage(r)
		if x.Topic = "t"; x.QoS < 0 || x.QoS > 2 {
			x.QoS = 2
		}
		p := publish(x, someOf(r, 1, 2, 3, 65535))
		if x.QoS == 0 {
			p.ID = 0
		}
		p.Dup = x.QoS > 0 && r.Intn(2) == 0
		return p
	case 3:
		return kind(api.Pubrel, someOf(r, 1, 2, 3, 65535))
	case 4, 5:
		if len(m.open) > 0 && r.Intn(3) > 0 {
			return someOf(r, suback(m.open[0], 0), kind(api.Unsuback, m.open[0]))
		}
		return someOf(r, suback(m.someID(r), 1, 128), kind(api.Unsuback, m.someID(r)))
	case 6:
		return kind(api.Pingresp, 0)
	}
	return kind(someOf(r, api.Puback, api.Pubrec, api.Pubcomp), m.someID(r))
}

// life: a twin and what is on the way to it, and what it sent on each link.
type life struct {
	*twin
	r     *rand.Rand
	way   string
	links []string
}

// live makes something happen.
func (l *life) live() {
	l.t.Helper()
	r := l.r
	switch r.Intn(30) {
	case 0, 1:
		l.sent(l.up())
	case 2:
		if r.Intn(3) == 0 {
			l.down()
		}
	case 3:
		if r.Intn(3) == 0 {
			l.sent(l.leave())
		}
	case 4, 5, 6, 7, 8:
		l.sent(l.publish(someMessage(r)))
	case 9, 10:
		l.sent(l.subscribe(someAsks(r)...))
	case 11, 12:
		l.sent(l.unsubscribe(someOf(r, []string{"a"}, []string{"a/#", "+"}, []string{"#", "b", "#"}, nil, []string{"a", "a#"})...))
	case 13, 14, 15, 16:
		l.sent(l.tick())
	default:
		l.come()
	}
	if l.m.phase == 0 {
		l.way = "" // what was on the way is lost
		if r.Intn(2) == 0 {
			l.sent(l.up())
		}
	}
}

func someAsks(r *rand.Rand) []api.Ask {
	return someOf(r, []api.Ask{ask("a", 0)}, []api.Ask{ask("a/#", 2), ask("+", 1)}, []api.Ask{ask("t", 2)}, nil, []api.Ask{ask("a", 0), ask("a", 3)})
}

// come lays packets on the way, and lets some bytes come.
func (l *life) come() {
	l.t.Helper()
	for range l.r.Intn(4) {
		if l.r.Intn(150) == 0 {
			l.way += someOf(l.r, faults()...)
		} else {
			l.way += encoded(l.t, l.m.someAnswer(l.r))
		}
	}
	k := someOf(l.r, len(l.way), len(l.way), l.r.Intn(len(l.way)+1), min(1, len(l.way)))
	came := l.way[:k]
	l.way = l.way[k:]
	l.sent(l.push(came))
}

// sent notes what was sent: a Connect begins a link.
func (l *life) sent(s string) {
	if s != "" && s[0] == 0x10 {
		l.links = append(l.links, "")
	}
	if s != "" {
		l.links[len(l.links)-1] += s
	}
}

// TestLives: all calls in any order, held against the model; and what is sent on each link against a conn.
func TestLives(t *testing.T) {
	r := rand.New(rand.NewSource(171))
	seen := map[string]int{}
	for range 3000 {
		l := &life{twin: newTwin(t, someWho(r)), r: r}
		for range r.Intn(120) {
			l.live()
			seen[fmt.Sprint("phase ", l.m.phase)]++
		}
		for what, n := range l.m.seen {
			seen[what] += n
		}
		for _, s := range l.links {
			seen["links"]++
			takes(t, s)
		}
	}
	for _, what := range []string{
		"phase 0", "phase 1", "phase 2", "links", "wrong", "not told",
		"sent Connect", "sent Publish", "sent Publish dup", "sent Puback", "sent Pubrec", "sent Pubrel", "sent Pubcomp", "sent Subscribe", "sent Unsubscribe", "sent Pingreq", "sent Disconnect",
		"came Connack in 1", "came Connack in 2", "came Publish in 1", "came Publish in 2", "came Puback in 2", "came Pubrec in 2", "came Pubrel in 2", "came Pubcomp in 2", "came Suback in 2", "came Unsuback in 2", "came Pingresp in 2", "came Pingreq in 2", "came Connect in 2", "came Disconnect in 2", "came Subscribe in 2",
	} {
		if seen[what] < 15 {
			t.Errorf("%s: %d times", what, seen[what])
		}
	}
}

// takes: a broker's conn takes what was sent on one link (P17.8), and nothing of it is left.
func takes(t *testing.T, s string) {
	t.Helper()
	far := conn.New(api.MaxLength, 0)
	far.Push([]byte(s))
	all := ""
	for in, ok := far.Next(); ok; in, ok = far.Next() {
		if in.What != api.InPacket {
			t.Fatalf("P17.8: of %X: %+v", s, in)
		}
		all += encoded(t, in.Packet)
	}
	if all != s {
		t.Fatalf("P17.8: of %X only %X is whole", s, all)
	}
}

// TestEveryCut: what comes, cut at each two places, is answered as if it came at once.
func TestEveryCut(t *testing.T) {
	came := encoded(t, connack(0, true), publish(msg("t", "x", 1), 3), publish(msg("t", "y", 2), 4), kind(api.Pubrec, 1), suback(2, 0), kind(api.Pubrel, 4)) + "\xD0\x80\x00" + encoded(t, kind(api.Pubcomp, 1), kind(api.Pingreq, 0), publish(msg("t", "z", 1), 5))
	ready := func() *client.Client {
		c := made(t, api.Who{Name: "a", Window: 1})
		c.Publish(msg("u", "1", 2))
		c.Publish(msg("u", "2", 1))
		c.Up()
		return c
	}
	whole := ready()
	want := string(whole.Push([]byte(came)))
	for i := range len(came) + 1 {
		for j := i; j <= len(came); j++ {
			c := ready()
			sent := ""
			for _, s := range []string{came[:i], came[i:j], came[j:]} {
				sent += string(c.Push([]byte(s)))
			}
			if sent != want || c.State() != whole.State() || !sameTold(c.Got(), whole.Got()) {
				t.Fatalf("P17.5: cut at %d and %d: %X, %+v; want %X, %+v", i, j, sent, c.State(), want, whole.State())
			}
		}
	}
}

// TestTwoClients: what one is told doesn't touch the other.
func TestTwoClients(t *testing.T) {
	w := api.Who{Name: "a", KeepAlive: 2, Window: 1}
	a, b := linked(t, w), linked(t, w)
	a.Publish(msg("t", "", 2))
	a.Subscribe([]api.Ask{{Filter: "a"}})
	a.Tick()
	a.Push([]byte("\x34\x05\x00\x01t\x00\x01\x20"))
	stands(t, "DOC 6", b, api.State{Phase: 2})
	got(t, "DOC 6", b)
	wantPings(t, "another one's", b, 2, 2)
	says(t, "DOC 6", b, "\x34\x05\x00\x01t\x00\x01", kind(api.Pubrec, 1))
	got(t, "DOC 6", b, api.Told{Msg: msg("t", "", 2)})
	x, e := b.Publish(msg("t", "", 1))
	wants(t, "DOC 6", x, e, api.OK, publish(msg("t", "", 1), 1))
	a.Leave()
	stands(t, "DOC 6", b, api.State{Phase: 2, Under: 1})
}

// TestMuch: very many packets at once, and one that comes in very many pieces.
func TestMuch(t *testing.T) {
	const many = 200000
	c := linked(t, api.Who{Name: "a"})
	one := "\x32\x06\x00\x01t\x00\x01x"
	came := make([]byte, 0, many*len(one))
	for range many {
		came = append(came, one...)
	}
	if b := c.Push(came); len(b) != 4*many {
		t.Errorf("P17.5: %d bytes", len(b))
	}
	long := encoded(t, publish(api.Message{Topic: "t", Payload: make([]byte, many)}, 0))
	for i := range long {
		if b := c.Push([]byte(long[i : i+1])); len(b) > 0 {
			t.Fatalf("P17.5: %X", b)
		}
	}
	if n := len(c.Got()); n != many+1 {
		t.Errorf("P17.7: %d told", n)
	}
}
