package client_test

import (
	"fmt"
	"math"
	"strings"
	"testing"

	"crier/api"
	"crier/client"
	"crier/packet"
)

// TestExampleBack: the chapter's first example.
func TestExampleBack(t *testing.T) {
	c := made(t, api.Who{Name: "a", Window: 1})
	b, e := c.Publish(msg("t", "x", 1))
	wants(t, "example 1", b, e, api.OK)
	b, e = c.Up()
	if want := "\x10\x0D\x00\x04MQTT\x04\x00\x00\x00\x00\x01a"; string(b) != want || e != api.OK {
		t.Errorf("example 1: Up: %X, %d; want %X", b, e, want)
	}
	if b, want := c.Push([]byte("\x20\x02\x00\x00")), "\x32\x06\x00\x01t\x00\x01x"; string(b) != want {
		t.Errorf("example 1: Push: %X; want %X", b, want)
	}
	c.Down()
	c.Up()
	if b, want := c.Push([]byte("\x20\x02\x01\x00")), "\x3A\x06\x00\x01t\x00\x01x"; string(b) != want {
		t.Errorf("example 1: Push: %X; want %X", b, want)
	}
	stands(t, "example 1", c, api.State{Phase: api.PhaseUp, Present: true, Under: 1})
	says(t, "example 1", c, "\x40\x02\x00\x01")
	stands(t, "example 1", c, api.State{Phase: api.PhaseUp, Present: true})
}

// TestExampleOnce: the chapter's second example.
func TestExampleOnce(t *testing.T) {
	c := linked(t, api.Who{Name: "a", Window: 1})
	two := "\x34\x06\x00\x01t\x00\x09y"
	if b, want := c.Push([]byte(two+two)), "\x50\x02\x00\x09\x50\x02\x00\x09"; string(b) != want {
		t.Errorf("example 2: %X; want %X", b, want)
	}
	got(t, "example 2", c, api.Told{Msg: msg("t", "y", 2)})
	if b, want := c.Push([]byte("\x62\x02\x00\x09")), "\x70\x02\x00\x09"; string(b) != want {
		t.Errorf("example 2: %X; want %X", b, want)
	}
	c.Push([]byte(two))
	got(t, "example 2", c, api.Told{Msg: msg("t", "y", 2)}, api.Told{Msg: msg("t", "y", 2)})
}

// TestExampleDown: the chapter's third example.
func TestExampleDown(t *testing.T) {
	c := made(t, api.Who{Name: "a", Window: 1})
	b, e := c.Publish(msg("t", "x", 0))
	wants(t, "example 3", b, e, api.ErrClientDown)
	c = linked(t, api.Who{Name: "a", Window: 1})
	says(t, "example 3", c, "\xC0\x00")
	stands(t, "example 3", c, api.State{})
}

// TestPhases: the three have api's numbers.
func TestPhases(t *testing.T) {
	c := made(t, api.Who{Name: "a"})
	stands(t, "P17.7: down", c, api.State{Phase: api.PhaseDown})
	c.Up()
	stands(t, "P17.7: asking", c, api.State{Phase: api.PhaseAsking})
	c.Push([]byte("\x20\x02\x00\x00"))
	stands(t, "P17.7: up", c, api.State{Phase: api.PhaseUp})
}

// TestNames: which may be a client.
func TestNames(t *testing.T) {
	for _, x := range []struct {
		name        string
		clean, last bool // whether a clean one, and a lasting one, may have it
	}{
		{"", true, false},
		{"a", true, true},
		{"a/+#", true, true},
		{"é\u20ac\U0001F600", true, true},
		{strings.Repeat("n", api.MaxText), true, true},
		{strings.Repeat("n", api.MaxText+1), false, false},
		{"\x00", false, false},
		{"a\x00", false, false},
		{"\xFF", false, false},
		{"a\xC3", false, false},
		{"\xED\xA0\x80", false, false},
	} {
		for _, clean := range []bool{true, false} {
			w := api.Who{Name: x.name, Clean: clean, Window: 3}
			c, e := client.New(w)
			if may := clean && x.clean || !clean && x.last; !may {
				if c != nil || e != api.ErrClientWho {
					t.Errorf("P17.1: New of %.20q, clean %t: %d", x.name, clean, e)
				}
				continue
			}
			if c == nil || e != api.OK {
				t.Errorf("P17.1: New of %.20q, clean %t: %d", x.name, clean, e)
				continue
			}
			stands(t, "P17.1", c, api.State{})
			got(t, "P17.1", c)
			b, e := c.Up()
			wants(t, "P17.2", b, e, api.OK, connect(w))
		}
	}
}

// extremes: numbers at and beyond all bounds.
func extremes() []int {
	return []int{math.MinInt, -1 << 31, -1, 0, 1, 2, 3, 255, 256, 65534, 65535, 65536, 1<<31 - 1, math.MaxInt}
}

// TestKeepAlives: as the Connect tells them.
func TestKeepAlives(t *testing.T) {
	for _, k := range extremes() {
		c := made(t, api.Who{Name: "a", KeepAlive: k})
		b, e := c.Up()
		wants(t, fmt.Sprint("P17.1: KeepAlive ", k), b, e, api.OK, connect(api.Who{Name: "a", KeepAlive: min(max(k, 0), 65535)}))
	}
}

// TestWindows: how many are under way at once, and how many numbers are left for Subscribes.
func TestWindows(t *testing.T) {
	for _, n := range extremes() {
		counts := min(max(n, 1), 65535)
		c := made(t, api.Who{Name: "a", Window: n})
		many := min(counts+2, 66000)
		for range many {
			c.Publish(msg("t", "", 1))
		}
		stands(t, fmt.Sprint("P17.3: Window ", n), c, api.State{Waiting: min(many, 65536)})
		c.Up()
		c.Push([]byte("\x20\x02\x00\x00"))
		stands(t, fmt.Sprint("P17.1: Window ", n), c, api.State{Phase: 2, Under: counts, Waiting: min(many, 65536) - counts})
		open := 0
		for open < 3 {
			if _, e := c.Subscribe([]api.Ask{{Filter: "a"}}); e != api.OK {
				if e != api.ErrClientFilter {
					t.Errorf("P17.4: %d", e)
				}
				break
			}
			open++
		}
		if want := min(65535-counts, 3); open != want {
			t.Errorf("P17.4: Window %d: %d Subscribes were sent; want %d", n, open, want)
		}
		stands(t, "P17.7", c, api.State{Phase: 2, Under: counts, Waiting: min(many, 65536) - counts, Open: open})
	}
}

// TestUp: in each phase, and of a clean one and a lasting one.
func TestUp(t *testing.T) {
	for _, w := range []api.Who{{Name: "a", Window: 1}, {Name: "a", Clean: true, KeepAlive: 300, Window: 1}, {Clean: true, Window: 1}} {
		x := newTwin(t, w)
		if b := x.up(); b != encoded(t, connect(w)) {
			t.Errorf("P17.2: %X", b)
		}
		if b := x.up(); b != "" {
			t.Errorf("P17.2: Up while it is asking: %X", b)
		}
		x.comes(connack(0, false))
		x.up()
		x.publish(msg("t", "1", 2))
		x.publish(msg("t", "2", 1))
		x.comes(publish(msg("u", "3", 2), 7), kind(api.Pubrec, 1))
		x.up()
		x.down()
		x.down()
		stands(t, "P17.2", x.c[0], api.State{Under: 1, Waiting: 1})
		x.up()
		if w.Clean {
			stands(t, "P17.2: a clean one begins anew", x.c[0], api.State{Phase: 1})
		} else {
			stands(t, "P17.2: a lasting one goes on", x.c[0], api.State{Phase: 1, Under: 1, Waiting: 1})
		}
		x.comes(connack(0, true))
		x.comes(publish(msg("u", "3", 2), 7))
		if n := len(x.c[0].Got()); n != 2 && w.Clean || n != 1 && !w.Clean {
			t.Errorf("P17.2: %d told, clean %t", n, w.Clean)
		}
		// A clean one's numbers begin anew too.
		if b, want := x.subscribe(ask("a", 0)), map[bool]int{true: 1, false: 2}[w.Clean]; b != encoded(t, subscribe(want, ask("a", 0))) {
			t.Errorf("P17.2: %X, clean %t", b, w.Clean)
		}
	}
}

// TestDown: what isn't whole is forgotten, and what wasn't answered.
func TestDown(t *testing.T) {
	ways := map[string]func(c *client.Client){
		"Down":          func(c *client.Client) { c.Down() },
		"Leave":         func(c *client.Client) { c.Leave() },
		"Push":          func(c *client.Client) { c.Push([]byte("\x04\xC0\x00\x00\x01\xE0\x00\x40\x02")) },
		"Push, wrong":   func(c *client.Client) { c.Push([]byte("\x04\xC0\x00\x00\x01\xFF\x40\x02")) },
		"Push, no more": func(c *client.Client) { c.Push([]byte("\x04\xC0\x00\x00\x01\x82")); c.Down() },
	}
	for name, way := range ways {
		c := linked(t, api.Who{Name: "a", Window: 65534})
		b, e := c.Subscribe([]api.Ask{{Filter: "a"}})
		wants(t, name, b, e, api.OK, subscribe(1, ask("a", 0)))
		_, e = c.Unsubscribe([]string{"a"})
		wants(t, name, nil, e, api.ErrClientFilter)
		c.Push([]byte("\x90"))
		way(c)
		stands(t, "P17.2: "+name, c, api.State{})
		says(t, "P17.5: "+name, c, "\x20\x02\x00\x00")
		stands(t, "P17.2: "+name, c, api.State{})
		c.Up()
		says(t, "P17.2: what was read is forgotten: "+name, c, "\x20\x02\x00\x00")
		stands(t, "P17.2: "+name, c, api.State{Phase: api.PhaseUp})
		says(t, "P17.5: a late Suback: "+name, c, "\x90\x03\x00\x01\x00")
		b, e = c.Unsubscribe([]string{"a"})
		wants(t, "P17.2: the number is free: "+name, b, e, api.OK, unsubscribe(2, "a"))
	}
}

// TestDownWhileAsking: the Connack is due then no more.
func TestDownWhileAsking(t *testing.T) {
	c := made(t, api.Who{Name: "a"})
	c.Up()
	c.Push([]byte("\x20\x02\x00"))
	c.Down()
	stands(t, "P17.2", c, api.State{})
	says(t, "P17.5", c, "\x00")
	stands(t, "P17.5", c, api.State{})
	c.Up()
	says(t, "P17.2", c, "\x20")
	says(t, "P17.2", c, "\x02\x01")
	stands(t, "P17.5", c, api.State{Phase: api.PhaseAsking})
	says(t, "P17.2", c, "\x00")
	stands(t, "P17.5", c, api.State{Phase: api.PhaseUp, Present: true})
}

// TestLeave: in each phase.
func TestLeave(t *testing.T) {
	for _, clean := range []bool{true, false} {
		c := made(t, api.Who{Name: "a", Clean: clean})
		b, e := c.Leave()
		wants(t, "P17.2: Leave while it is down", b, e, api.ErrClientDown)
		c.Up()
		b, e = c.Leave()
		wants(t, "P17.2: Leave while it is asking", b, e, api.ErrClientDown)
		stands(t, "P17.2", c, api.State{Phase: api.PhaseAsking})
		c.Push([]byte("\x20\x02\x00\x00"))
		b, e = c.Leave()
		wants(t, "P17.2: Leave", b, e, api.OK, kind(api.Disconnect, 0))
		stands(t, "P17.2", c, api.State{})
		b, e = c.Leave()
		wants(t, "P17.2: Leave again", b, e, api.ErrClientDown)
	}
}

// TestNoMessages: what is no message, in each phase, ahead of all other errors.
func TestNoMessages(t *testing.T) {
	for _, clean := range []bool{true, false} {
		c := made(t, api.Who{Name: "a", Clean: clean, Window: 1})
		for phase := range 3 {
			for _, m := range []api.Message{
				{},
				msg("", "x", 0),
				msg("a+", "x", 1),
				msg("#", "x", 2),
				msg("a/+", "x", 0),
				msg("a\x00", "x", 0),
				msg("\xFF", "x", 1),
				msg(strings.Repeat("t", api.MaxText+1), "", 2),
				msg("t", "", 3),
				msg("t", "", -1),
				msg("t", "", math.MinInt),
				msg("t", "", math.MaxInt),
			} {
				b, e := c.Publish(m)
				wants(t, fmt.Sprintf("P17.3: Publish(%.20q, %d)", m.Topic, m.QoS), b, e, api.ErrClientMessage)
				stands(t, "P17.3", c, api.State{Phase: phase})
			}
			if phase == 0 {
				c.Up()
			} else {
				c.Push([]byte("\x20\x02\x00\x00"))
			}
		}
	}
}

// TestLongMessages: a Publish of just MaxLength, and one longer. (None of them is sent: of a clean one that is down the next error tells that the message may be.)
func TestLongMessages(t *testing.T) {
	c := made(t, api.Who{Name: "a", Clean: true})
	up := linked(t, api.Who{Name: "a"})
	payload := make([]byte, api.MaxLength)
	for qos := range 3 {
		for _, name := range []string{"t", "a/b", strings.Repeat("t", api.MaxText)} {
			most := api.MaxLength - 2 - len(name) - map[int]int{0: 0, 1: 2, 2: 2}[qos]
			m := api.Message{Topic: name, Payload: payload[:most], QoS: qos}
			_, e := c.Publish(m)
			wants(t, "P17.3: of MaxLength", nil, e, api.ErrClientDown)
			m.Payload = payload[:most+1]
			for _, c := range []*client.Client{c, up} {
				b, e := c.Publish(m)
				wants(t, "P17.3: longer than MaxLength", b, e, api.ErrClientMessage)
			}
		}
	}
	stands(t, "P17.3", up, api.State{Phase: api.PhaseUp})
}

// TestLongestMessage: it is sent, and a conn's reader takes it.
func TestLongestMessage(t *testing.T) {
	c := linked(t, api.Who{Name: "a"})
	b, e := c.Publish(api.Message{Topic: "t", Payload: make([]byte, api.MaxLength-3)})
	if len(b) != api.MaxLength+5 || e != api.OK || string(b[:8]) != "\x30\xFF\xFF\xFF\x7F\x00\x01t" {
		t.Errorf("P17.3: %d bytes, %d", len(b), e)
	}
}

// TestPublish: at each quality, in each phase.
func TestPublish(t *testing.T) {
	for _, clean := range []bool{true, false} {
		for qos := range 3 {
			for _, m := range []api.Message{msg("t", "x", qos), retained(msg("a//$b", "", qos)), {Topic: strings.Repeat("t", api.MaxText), QoS: qos}} {
				c := made(t, api.Who{Name: "a", Clean: clean, Window: 2})
				refused := api.OK
				if qos == 0 || clean {
					refused = api.ErrClientDown
				}
				b, e := c.Publish(m)
				wants(t, "P17.3: down", b, e, refused)
				c.Up()
				b, e = c.Publish(m)
				wants(t, "P17.3: asking", b, e, refused)
				sent := []api.Packet{publish(m, 1), publish(m, 2)}
				if refused != api.OK {
					sent = nil
				}
				says(t, "P17.5", c, "\x20\x02\x00\x00", sent...)
				b, e = c.Publish(m)
				switch {
				case qos == 0:
					wants(t, "P17.3: up", b, e, api.OK, publish(m, 0))
					stands(t, "P17.3", c, api.State{Phase: 2})
				case clean:
					wants(t, "P17.3: up", b, e, api.OK, publish(m, 1))
					stands(t, "P17.3", c, api.State{Phase: 2, Under: 1})
				default:
					wants(t, "P17.3: up, and all numbers are under way", b, e, api.OK)
					stands(t, "P17.3", c, api.State{Phase: 2, Under: 2, Waiting: 1})
				}
			}
		}
	}
}

// TestFull: as much waits as may: of one that is down, asking, and up, lasting or clean.
func TestFull(t *testing.T) {
	m := msg("t", "", 1)
	c := made(t, api.Who{Name: "a", Window: 2})
	for i := range api.MaxPending {
		if b, e := c.Publish(m); len(b) > 0 || e != api.OK {
			t.Fatalf("P17.3: message %d: %X, %d", i, b, e)
		}
	}
	for phase := range 2 {
		for qos := 1; qos <= 2; qos++ {
			b, e := c.Publish(msg("t", "more", qos))
			wants(t, "P17.3", b, e, api.ErrClientFull)
			stands(t, "P17.3", c, api.State{Phase: phase, Waiting: api.MaxPending})
		}
		c.Up()
	}
	says(t, "P17.5", c, "\x20\x02\x00\x00", publish(m, 1), publish(m, 2))
	fullUp(t, c, m)
	b, e := c.Publish(msg("t", "x", 0))
	wants(t, "P17.3: quality 0 needs no room", b, e, api.OK, publish(msg("t", "x", 0), 0))
	says(t, "P17.5", c, "\x40\x02\x00\x02", publish(m, 3))
	b, e = c.Publish(m)
	wants(t, "P17.3: there is room again", b, e, api.OK)
	b, e = c.Publish(m)
	wants(t, "P17.3", b, e, api.ErrClientFull)

	c = linked(t, api.Who{Name: "a", Clean: true, Window: 2})
	for id := 1; id <= 2; id++ {
		b, e := c.Publish(m)
		wants(t, "P17.3", b, e, api.OK, publish(m, id))
	}
	for range api.MaxPending - 2 {
		c.Publish(m)
	}
	fullUp(t, c, m)
}

// fullUp: one that is up, with two under way: two more may wait, and no third.
func fullUp(t *testing.T, c *client.Client, m api.Message) {
	t.Helper()
	for _, want := range []api.Errno{api.OK, api.OK, api.ErrClientFull, api.ErrClientFull} {
		b, e := c.Publish(m)
		wants(t, "P17.3", b, e, want)
	}
	stands(t, "P17.3", c, api.State{Phase: 2, Under: 2, Waiting: api.MaxPending})
}

// TestAsks: Subscribes and Unsubscribes, in each phase, right ones and wrong ones; a refused one takes no number.
func TestAsks(t *testing.T) {
	long := strings.Repeat("f", api.MaxText)
	c := made(t, api.Who{Name: "a", Window: 5})
	for phase := range 2 {
		for _, l := range [][]api.Ask{{ask("a", 0)}, nil, {ask("a#", 7)}} {
			b, e := c.Subscribe(l)
			wants(t, "P17.4", b, e, api.ErrClientDown)
		}
		for _, l := range [][]string{{"a"}, nil, {"a#"}} {
			b, e := c.Unsubscribe(l)
			wants(t, "P17.4", b, e, api.ErrClientDown)
		}
		stands(t, "P17.4", c, api.State{Phase: phase})
		c.Up()
	}
	c.Push([]byte("\x20\x02\x00\x00"))
	for _, l := range [][]api.Ask{nil, {}, {ask("", 0)}, {ask("a", 0), ask("a#", 0)}, {ask("#/a", 0)}, {ask("a", 3)}, {ask("a", -1)}, {ask("a", 0), ask("b", 128)}, {ask("\xFF", 0)}, {ask("a\x00", 0)}, {ask(long+"f", 0)}} {
		b, e := c.Subscribe(l)
		wants(t, "P17.4", b, e, api.ErrClientFilter)
	}
	for _, l := range [][]string{nil, {}, {""}, {"a", "+a"}, {"#/a"}, {"\xFF"}, {"a\x00"}, {long + "f"}} {
		b, e := c.Unsubscribe(l)
		wants(t, "P17.4", b, e, api.ErrClientFilter)
	}
	stands(t, "P17.4", c, api.State{Phase: 2})
	for i, l := range [][]api.Ask{{ask("a", 0)}, {ask("a", 1), ask("a", 2), ask("#", 0)}, {ask("+/$a/#", 2)}, {ask(long, 1)}} {
		b, e := c.Subscribe(l)
		wants(t, "P17.4", b, e, api.OK, subscribe(2*i+1, l...))
		stands(t, "P17.4", c, api.State{Phase: 2, Open: 2*i + 1})
		filters := []string{}
		for _, a := range l {
			filters = append(filters, a.Filter)
		}
		b, e = c.Unsubscribe(filters)
		wants(t, "P17.4", b, e, api.OK, unsubscribe(2*i+2, filters...))
		stands(t, "P17.4", c, api.State{Phase: 2, Open: 2*i + 2})
	}
}

// TestLongAsks: a Subscribe longer than MaxLength.
func TestLongAsks(t *testing.T) {
	c := linked(t, api.Who{Name: "a", Window: 5})
	long := strings.Repeat("f", api.MaxText)
	asks, filters := make([]api.Ask, 4097), make([]string, 4097)
	for i := range asks {
		asks[i].Filter, filters[i] = long, long
	}
	b, e := c.Subscribe(asks)
	wants(t, "P17.4: longer than MaxLength", b, e, api.ErrClientFilter)
	b, e = c.Unsubscribe(filters)
	wants(t, "P17.4: longer than MaxLength", b, e, api.ErrClientFilter)
	stands(t, "P17.4", c, api.State{Phase: 2})
	b, e = c.Subscribe(asks[:2])
	wants(t, "P17.4", b, e, api.OK, subscribe(1, asks[:2]...))
}

// TestNumbers: one row of them for messages, Subscribes and Unsubscribes, round and round.
func TestNumbers(t *testing.T) {
	x := newTwin(t, api.Who{Name: "a", Window: 3})
	x.link(false)
	x.publish(msg("t", "stays", 2))
	x.subscribe(ask("stays", 0))
	for range 65536/3 + 5 {
		x.subscribe(ask("a", 0))
		x.comes(suback(x.m.last, 0))
		x.publish(msg("t", "", 1))
		x.comes(kind(api.Puback, x.m.last))
		x.unsubscribe("a")
		x.comes(kind(api.Unsuback, x.m.last))
	}
	if x.m.last < 3 || x.m.last > 100 {
		t.Errorf("the numbers went on to %d", x.m.last)
	}
	stands(t, "P17.7", x.c[0], api.State{Phase: 2, Under: 1, Open: 1})
}

// TestAnswers: which packet answers a Subscribe or an Unsubscribe.
func TestAnswers(t *testing.T) {
	for _, p := range []api.Packet{suback(1, 0), suback(1, 128, 1, 2), kind(api.Unsuback, 1), suback(2, 0), kind(api.Unsuback, 2)} {
		c := linked(t, api.Who{Name: "a", Window: 65533})
		c.Subscribe([]api.Ask{{Filter: "a"}})
		c.Unsubscribe([]string{"a"})
		b, e := c.Publish(msg("t", "", 1))
		wants(t, "P17.3", b, e, api.OK, publish(msg("t", "", 1), 3))
		for _, other := range []api.Packet{suback(3, 0), kind(api.Unsuback, 3), suback(4, 0), kind(api.Unsuback, 65535), kind(api.Puback, 1), kind(api.Pubrec, 1), kind(api.Pubcomp, 2)} {
			says(t, "P17.5: what nobody asked for", c, encoded(t, other))
			stands(t, "P17.5: what nobody asked for", c, api.State{Phase: 2, Under: 1, Open: 2})
		}
		_, e = c.Subscribe([]api.Ask{{Filter: "a"}})
		wants(t, "P17.4: no number is left", nil, e, api.ErrClientFilter)
		for range 2 {
			says(t, "P17.5: "+packet.Name(p.Kind), c, encoded(t, p))
			stands(t, "P17.5: "+packet.Name(p.Kind), c, api.State{Phase: 2, Under: 1, Open: 1})
		}
		b, e = c.Subscribe([]api.Ask{{Filter: "a"}})
		wants(t, "P17.5: the number is free", b, e, api.OK, subscribe(4, ask("a", 0)))
	}
}

// TestWhileDown: nothing that comes is taken.
func TestWhileDown(t *testing.T) {
	for _, p := range kinds()[1:] {
		c := made(t, api.Who{Name: "a"})
		says(t, "P17.5: down: "+packet.Name(p.Kind), c, encoded(t, p))
		stands(t, "P17.5: down: "+packet.Name(p.Kind), c, api.State{})
		got(t, "P17.5", c)
		c.Up()
		says(t, "P17.5: what came ahead is gone", c, "\x20\x02\x01\x00")
		stands(t, "P17.5: what came ahead is gone", c, api.State{Phase: 2, Present: true})
	}
}

// TestWhileAsking: each kind; what follows is forgotten, if it goes down.
func TestWhileAsking(t *testing.T) {
	one := publish(msg("t", "behind", 1), 7)
	for _, p := range kinds()[1:] {
		if p.Kind == api.Connack {
			continue
		}
		c := made(t, api.Who{Name: "a"})
		c.Up()
		says(t, "P17.5: asking: "+packet.Name(p.Kind), c, encoded(t, p, connack(0, true), one))
		stands(t, "P17.5: asking: "+packet.Name(p.Kind), c, api.State{})
		got(t, "P17.5", c)
	}
	for code := range 256 {
		c := made(t, api.Who{Name: "a"})
		c.Up()
		if code == 0 {
			says(t, "P17.5: Connack 0", c, encoded(t, connack(0, false), one), kind(api.Puback, 7))
			stands(t, "P17.5: Connack 0", c, api.State{Phase: 2})
			continue
		}
		says(t, "P17.5: refused", c, encoded(t, connack(code, false), connack(0, true), one))
		stands(t, "P17.5: refused", c, api.State{Code: code})
		c.Up()
		stands(t, "P17.7: the last Connack's code", c, api.State{Phase: 1, Code: code})
		says(t, "P17.5", c, "\x20\x02\x00\x00")
		stands(t, "P17.7: the last Connack's code", c, api.State{Phase: 2})
	}
}

// TestWhileUp: each kind; what follows is taken, or, if it goes down, forgotten.
func TestWhileUp(t *testing.T) {
	one := publish(msg("t", "behind", 1), 7)
	for _, p := range kinds()[1:] {
		c := linked(t, api.Who{Name: "a"})
		before := api.Told{Msg: msg("t", "ahead", 0)}
		came := encoded(t, publish(before.Msg, 0), p, one)
		what := "P17.5: up: " + packet.Name(p.Kind)
		behind := api.Told{Msg: one.Msg}
		switch p.Kind {
		case api.Publish:
			says(t, what, c, came, kind(api.Puback, 3), kind(api.Puback, 7))
			got(t, what, c, before, api.Told{Msg: p.Msg, Dup: true}, behind)
		case api.Pubrel:
			says(t, what, c, came, kind(api.Pubcomp, 6), kind(api.Puback, 7))
			got(t, what, c, before, behind)
		case api.Puback, api.Pubrec, api.Pubcomp, api.Suback, api.Unsuback, api.Pingresp:
			says(t, what, c, came, kind(api.Puback, 7))
			got(t, what, c, before, behind)
		default:
			says(t, what, c, came)
			got(t, what, c, before)
			stands(t, what, c, api.State{})
			says(t, what, c, encoded(t, one))
			continue
		}
		stands(t, what, c, api.State{Phase: 2})
	}
}

// TestConnackWhileUp: it ends the link, and no more: what State tells of Connacks is what the one that it asked for said.
func TestConnackWhileUp(t *testing.T) {
	for _, present := range []bool{true, false} {
		for _, p := range []api.Packet{connack(0, false), connack(0, true), connack(5, false)} {
			x := newTwin(t, api.Who{Name: "a"})
			x.link(present)
			x.comes(publish(msg("t", "", 2), 1), p)
			stands(t, "P17.5", x.c[0], api.State{Present: present})
			x.link(true)
			x.comes(publish(msg("t", "", 2), 1))
			if n := len(x.c[0].Got()); n != 1 {
				t.Errorf("P17.5: %d told", n)
			}
		}
	}
}

// TestFaults: bytes that are wrong, asking and up; what was answered ahead is answered, what follows is forgotten.
func TestFaults(t *testing.T) {
	for _, f := range faults() {
		for _, ahead := range []bool{true, false} {
			x := newTwin(t, api.Who{Name: "a"})
			x.up()
			if ahead {
				x.comes(connack(0, true))
			}
			first := ""
			if ahead {
				first = encoded(t, publish(msg("t", "ahead", 2), 4))
			}
			sent := x.push(first + f + encoded(t, connack(0, false), publish(msg("t", "behind", 1), 5)))
			if want := map[bool]string{true: "\x50\x02\x00\x04", false: ""}[ahead]; sent != want {
				t.Errorf("P17.5: %X: %X", f, sent)
			}
			stands(t, fmt.Sprintf("P17.5: %X", f), x.c[0], api.State{Present: ahead})
		}
	}
}

// TestQualities: what is told and answered of messages of each quality, with and without marks, and of their numbers.
func TestQualities(t *testing.T) {
	x := newTwin(t, api.Who{Name: "a"})
	x.link(false)
	var want []api.Told
	tell := func(p api.Packet) { want = append(want, api.Told{Msg: p.Msg, Dup: p.Dup}) }
	for _, m := range []api.Message{msg("t", "x", 0), retained(msg("$t/", "", 0)), msg("t", "x", 1), retained(msg("t", "y", 1)), retained(msg("t", "z", 2))} {
		for _, again := range []bool{false, true} {
			p := publish(m, 9)
			if m.QoS == 0 {
				p.ID = 0
			}
			p.Dup = again && m.QoS > 0
			x.comes(p)
			if m.QoS < 2 || !again {
				tell(p)
			}
		}
	}
	got(t, "P17.5", x.c[0], want...)
	for _, p := range []api.Packet{publish(msg("t", "1", 1), 9), dup(publish(msg("t", "2", 2), 65535)), publish(msg("t", "3", 2), 1)} {
		x.comes(p)
		tell(p)
	}
	got(t, "P17.5", x.c[0], want...)
	// Released, two are told again, the third one isn't.
	x.comes(kind(api.Pubrel, 9), kind(api.Pubrel, 65535), kind(api.Pubrel, 65535), kind(api.Pubrel, 5))
	for _, p := range []api.Packet{publish(msg("t", "4", 2), 9), dup(publish(msg("t", "5", 2), 65535))} {
		x.comes(p)
		tell(p)
	}
	x.comes(publish(msg("t", "6", 2), 1))
	got(t, "P17.5", x.c[0], want...)
}

// TestNoted: numbers that came in outlive a link of a lasting client, if its session was there, and nothing else.
func TestNoted(t *testing.T) {
	for _, way := range []struct {
		clean, present bool
		told           int
	}{{false, true, 1}, {false, false, 2}, {true, true, 2}, {true, false, 2}} {
		for _, leave := range []bool{true, false} {
			x := newTwin(t, api.Who{Name: "a", Clean: way.clean})
			x.link(false)
			x.comes(publish(msg("t", "", 2), 3))
			if leave {
				x.leave()
			} else {
				x.down()
			}
			// A Connect that is refused, or broken off, changes nothing of that.
			x.up()
			x.comes(connack(3, false))
			x.up()
			x.down()
			x.link(way.present)
			x.comes(dup(publish(msg("t", "", 2), 3)))
			if n := len(x.c[0].Got()); n != way.told {
				t.Errorf("P17.5: clean %t, present %t: %d told", way.clean, way.present, n)
			}
		}
	}
}

// TestManyNoted: all numbers, noted and released.
func TestManyNoted(t *testing.T) {
	c := linked(t, api.Who{Name: "a"})
	for round := range 3 {
		for id := 1; id <= api.MaxID; id++ {
			says(t, "P17.5", c, encoded(t, publish(msg("t", "", 2), id)), kind(api.Pubrec, id))
		}
		if n := len(c.Got()); n != (round/2+1)*api.MaxID {
			t.Fatalf("P17.9: round %d: %d told", round, n)
		}
		for id := 1; round == 1 && id <= api.MaxID; id++ {
			says(t, "P17.5", c, encoded(t, kind(api.Pubrel, id)), kind(api.Pubcomp, id))
		}
	}
}

// TestAcknowledged: what the window answers is sent.
func TestAcknowledged(t *testing.T) {
	x := newTwin(t, api.Who{Name: "a", Window: 2})
	x.link(false)
	for i, qos := range []int{1, 2, 1, 2, 2, 1} {
		x.publish(msg("t", fmt.Sprint(i), qos))
	}
	for _, s := range []struct {
		came api.Packet
		want []api.Packet
	}{
		{kind(api.Pubrec, 1), nil},
		{kind(api.Pubcomp, 1), nil},
		{kind(api.Puback, 2), nil},
		{kind(api.Pubcomp, 2), nil},
		{kind(api.Puback, 3), nil},
		{kind(api.Puback, 1), []api.Packet{publish(msg("t", "2", 1), 3)}},
		{kind(api.Puback, 1), nil},
		{kind(api.Pubrec, 2), []api.Packet{kind(api.Pubrel, 2)}},
		{kind(api.Pubrec, 2), []api.Packet{kind(api.Pubrel, 2)}},
		{kind(api.Puback, 2), nil},
		{kind(api.Pubcomp, 2), []api.Packet{publish(msg("t", "3", 2), 4)}},
		{kind(api.Pubcomp, 2), nil},
		{kind(api.Pubrec, 4), []api.Packet{kind(api.Pubrel, 4)}},
	} {
		if b := x.comes(s.came); b != encoded(t, s.want...) {
			t.Errorf("P17.5: %s %d: %X", packet.Name(s.came.Kind), s.came.ID, b)
		}
	}
	x.down()
	if b := x.link(true); b != encoded(t, dup(publish(msg("t", "2", 1), 3)), kind(api.Pubrel, 4)) {
		t.Errorf("P17.5: it resumes: %X", b)
	}
	if b := x.comes(kind(api.Pubcomp, 4), kind(api.Puback, 3)); b != encoded(t, publish(msg("t", "4", 2), 5), publish(msg("t", "5", 1), 6)) {
		t.Errorf("P17.5: %X", b)
	}
	// Without Present it resumes all the same.
	x.leave()
	if b := x.link(false); b != encoded(t, dup(publish(msg("t", "4", 2), 5)), dup(publish(msg("t", "5", 1), 6))) {
		t.Errorf("P17.5: it resumes: %X", b)
	}
}

// TestOfflineFirst: what was published while it was down or asking is sent with the Connack, as there is room, and not sooner.
func TestOfflineFirst(t *testing.T) {
	x := newTwin(t, api.Who{Name: "a", Window: 3})
	x.publish(msg("t", "1", 1))
	x.publish(msg("t", "2", 2))
	x.up()
	x.publish(msg("t", "3", 1))
	x.publish(msg("t", "4", 1))
	stands(t, "P17.3", x.c[0], api.State{Phase: 1, Waiting: 4})
	if b := x.comes(connack(0, false)); b != encoded(t, publish(msg("t", "1", 1), 1), publish(msg("t", "2", 2), 2), publish(msg("t", "3", 1), 3)) {
		t.Errorf("P17.5: %X", b)
	}
	x.down()
	x.publish(msg("t", "5", 2))
	x.up()
	x.comes(connack(2, false))
	stands(t, "P17.5: refused", x.c[0], api.State{Code: 2, Under: 3, Waiting: 2})
}

// TestPresent: Present is of the last Connack of code 0, Code of the last Connack.
func TestPresent(t *testing.T) {
	c := made(t, api.Who{Name: "a"})
	for _, s := range []struct {
		came string
		want api.State
	}{
		{"\x20\x02\x01\x00", api.State{Phase: 2, Present: true}},
		{"\x20\x02\x00\x04", api.State{Present: true, Code: 4}},
		{"\x20\x02\x00\x05", api.State{Present: true, Code: 5}},
		{"\xD0\x00", api.State{Present: true, Code: 5}},
		{"\x20\x02\x01\x03", api.State{Present: true, Code: 5}},
		{"\x20\x02\x00\x00", api.State{Phase: 2}},
		{"\x20\x02\x00\x01", api.State{Code: 1}},
		{"\x20\x02\x01\x00", api.State{Phase: 2, Present: true}},
	} {
		c.Down()
		c.Up()
		says(t, "P17.7", c, s.came)
		stands(t, fmt.Sprintf("P17.7: %X", s.came), c, s.want)
	}
}
