package client_test

import (
	"fmt"
	"math/rand"
	"strings"
	"testing"

	"crier/api"
	"crier/broker"
	"crier/client"
)

// end: a client, and its link, if it has one.
type end struct {
	c       *client.Client
	linked  bool
	conn    int
	in, out string // what is on the way to the broker, and to the client
	took    []api.Message
}

// place: a broker and clients, whose links carry, break, come back.
type place struct {
	t       *testing.T
	r       *rand.Rand
	setup   api.Config
	b       *broker.Broker
	ends    []*end
	opened  int
	granted int // the quality of every client's filter
}

func newPlace(t *testing.T, r *rand.Rand, many int) *place {
	t.Helper()
	setup := api.Config{Window: 1 + r.Intn(3), Queue: 10000, Subs: 9, Retained: 9, Sessions: api.MaxSessions, Most: 1000}
	p := &place{t: t, r: r, setup: setup, b: broker.New(setup), granted: 1 + r.Intn(2)}
	for i := range many {
		p.ends = append(p.ends, &end{c: made(t, api.Who{Name: fmt.Sprint("c", i), KeepAlive: r.Intn(4), Window: 1 + r.Intn(3)})})
	}
	for _, x := range p.ends {
		p.up(x)
	}
	p.rest()
	for _, x := range p.ends {
		b, _ := x.c.Subscribe([]api.Ask{{Filter: "t/#", QoS: p.granted}})
		x.in += string(b)
	}
	p.rest()
	for _, x := range p.ends {
		stands(t, "a Suback came", x.c, api.State{Phase: 2})
	}
	return p
}

// up links a client that is down.
func (p *place) up(x *end) {
	b, e := x.c.Up()
	if e != api.OK {
		return
	}
	x.linked, x.conn, x.in = true, p.opened%5000, string(b)
	p.opened++
	p.lay(p.b.Do(api.Event{Kind: api.Open, Conn: x.conn}))
}

// lay lays what the broker answers on the links; a closing breaks one.
func (p *place) lay(l []api.Out) {
	for _, o := range l {
		for _, x := range p.ends {
			if !x.linked || x.conn != o.Conn {
				continue
			}
			if x.out += string(o.Data); o.Closed {
				p.lose(x)
			}
		}
	}
}

// lose: a link is gone, and what is on it; its client knows.
func (p *place) lose(x *end) {
	x.c.Down()
	x.linked, x.in, x.out = false, "", ""
}

// cut: the broker knows too.
func (p *place) cut(x *end) {
	if x.linked {
		p.lose(x)
		p.lay(p.b.Do(api.Event{Kind: api.Close, Conn: x.conn}))
	}
}

// carryIn lets so many bytes come to the broker.
func (p *place) carryIn(x *end, n int) {
	n = min(n, len(x.in))
	came := x.in[:n]
	x.in = x.in[n:]
	if x.linked {
		p.lay(p.b.Do(api.Event{Kind: api.Bytes, Conn: x.conn, Data: []byte(came)}))
	}
}

// carryOut lets so many bytes come to the client.
func (p *place) carryOut(x *end, n int) {
	n = min(n, len(x.out))
	came := x.out[:n]
	x.out = x.out[n:]
	if x.linked {
		x.in += string(x.c.Push([]byte(came)))
	}
	if x.linked && x.c.State().Phase == api.PhaseDown {
		p.t.Fatalf("P17.5: the broker's %X makes it down", came)
	}
}

// rest lets all links carry all.
func (p *place) rest() {
	for busy := true; busy; {
		busy = false
		for _, x := range p.ends {
			busy = busy || x.in != "" || x.out != ""
			p.carryIn(x, len(x.in))
			p.carryOut(x, len(x.out))
		}
	}
}

func (p *place) publish(x *end, m api.Message) {
	b, e := x.c.Publish(m)
	if e != api.OK {
		p.t.Fatalf("P17.3: a lasting client: %d", e)
	}
	x.took = append(x.took, m)
	x.in += string(b)
}

// reboot: the broker falls, and a new one is made from its image.
func (p *place) reboot() {
	for _, x := range p.ends {
		p.lose(x)
	}
	b, e := broker.From(p.setup, p.b.Image())
	if e != api.OK {
		p.t.Fatalf("P16.7: %d", e)
	}
	p.b = b
}

func (p *place) tick() {
	p.lay(p.b.Do(api.Event{Kind: api.Tick}))
	for _, x := range p.ends {
		if b := x.c.Tick(); x.linked {
			x.in += string(b)
		}
	}
}

// move makes something happen.
func (p *place) move(n int) {
	r := p.r
	x := someOf(r, p.ends...)
	switch r.Intn(40) {
	case 0:
		p.cut(x)
	case 1:
		p.lose(x)
	case 2:
		if b, e := x.c.Leave(); e == api.OK {
			x.in += string(b)
			p.carryIn(x, len(x.in))
			p.cut(x)
		}
	case 3:
		if r.Intn(4) == 0 {
			p.reboot()
		}
	case 4, 5, 6, 7:
		p.up(x)
	case 8, 9, 10, 11, 12:
		p.publish(x, msg(someOf(r, "t/0", "t/1", "t"), fmt.Sprint("m", n), 1+r.Intn(2)))
	case 13, 14:
		p.tick()
	case 15, 16, 17, 18, 19, 20, 21, 22, 23, 24, 25:
		p.carryIn(x, someOf(r, 1, 3, 7, 20, len(x.in)))
	default:
		p.carryOut(x, someOf(r, 1, 3, 7, 20, len(x.out)))
	}
}

// TestOnceAndInOrder: what clients are for (P22.7, P22.8, P22.14): whatever becomes of the links, at the end each message has come, of quality 2 just once, and in order.
func TestOnceAndInOrder(t *testing.T) {
	r := rand.New(rand.NewSource(172))
	took, again := 0, 0
	for range 400 {
		p := newPlace(t, r, 1+r.Intn(3))
		for n := range 300 {
			p.move(n)
		}
		for _, x := range p.ends {
			p.up(x)
		}
		p.rest()
		for _, x := range p.ends {
			p.up(x) // a Connect of a link that a tick or another Connect broke
		}
		p.rest()
		for i, x := range p.ends {
			l := x.c.Got()
			for _, y := range p.ends {
				again += p.hold(fmt.Sprint("client ", i), l, y.took)
				took += len(y.took)
			}
			if s := x.c.State(); s.Phase != 2 || s.Under+s.Waiting+s.Open > 0 {
				t.Fatalf("P22.14: client %d: %+v", i, s)
			}
		}
		for _, s := range p.b.Image().Sessions {
			if len(s.Inbox)+len(s.Window.Flight)+len(s.Window.Queue) > 0 {
				t.Fatalf("P22.14: %+v", s)
			}
		}
	}
	if took < 5000 || again < 100 {
		t.Errorf("%d messages, %d of them told again", took, again)
	}
}

// hold: of one publisher's messages each was told, of quality 2 once, and in order; it tells how many were told more than once.
func (p *place) hold(who string, l []api.Told, took []api.Message) int {
	p.t.Helper()
	at, times := map[string]int{}, map[string]int{}
	for i, x := range l {
		name := string(x.Msg.Payload)
		if times[name]++; times[name] == 1 {
			at[name] = i
		}
	}
	again := 0
	last := map[string]int{}
	for _, m := range took {
		name, row := string(m.Payload), fmt.Sprint(m.Topic, " ", m.QoS)
		n := times[name]
		if n == 0 || n > 1 && min(m.QoS, p.granted) == 2 {
			p.t.Fatalf("P22.7: %s: %s, %s, was told %d times: %s", who, name, row, n, toldText(l))
		}
		if before, ok := last[row]; ok && at[name] < before {
			p.t.Fatalf("P22.8: %s: %s, %s, was told too soon: %s", who, name, row, toldText(l))
		}
		last[row] = at[name]
		again += n - 1
	}
	return again
}

// TestLongLink: a client and a broker, each quality both ways, without a break.
func TestLongLink(t *testing.T) {
	p := newPlace(t, rand.New(rand.NewSource(173)), 2)
	a, b := p.ends[0], p.ends[1]
	var want []string
	for i := range 2000 {
		p.publish(a, msg("t/"+fmt.Sprint(i%7), fmt.Sprint(i), 1+i%2))
		want = append(want, fmt.Sprint(i))
		if i%50 == 0 {
			p.rest()
		}
	}
	p.rest()
	for _, x := range []*end{a, b} {
		var got []string
		for _, y := range x.c.Got() {
			got = append(got, string(y.Msg.Payload))
		}
		if strings.Join(got, " ") != strings.Join(want, " ") {
			t.Errorf("P22.7: %d told", len(got))
		}
	}
}
