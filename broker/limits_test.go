package broker_test

import (
	"fmt"
	"math"
	"strings"
	"testing"
	"time"

	"crier/api"
	"crier/broker"
	"crier/image"
)

// plain: a broker alone, for what is too much to be held against the model step by step.
type plain struct {
	t *testing.T
	b *broker.Broker
}

func (x plain) wants(promise string, e api.Event, want string) {
	x.t.Helper()
	if got := told(x.b.Do(e)); got != want {
		x.t.Fatalf("%s: %.300s; want %.300s", promise, got, want)
	}
}

func (x plain) says(promise string, n int, want string, l ...api.Packet) {
	x.t.Helper()
	x.wants(promise, data(n, encoded(x.t, l...)), want)
}

// TestWindowAndQueue: under way, waiting, lost, at small bounds and beyond their own.
func TestWindowAndQueue(t *testing.T) {
	for window, may := range map[int]int{math.MinInt: 1, -1: 1, 0: 1, 1: 1, 2: 2, 5: 5} {
		for queue, room := range map[int]int{math.MinInt: 0, -1: 0, 0: 0, 1: 1, 3: 3} {
			c := wide()
			c.Window, c.Queue = window, queue
			d := newDesk(t, c)
			d.up("a", "p")
			d.says("P16.1", 0, "0 suback #1 [1]", subscribe(1, ask("t", 1)))
			for i := range may + room + 2 {
				want := "1 puback #1"
				if i < may {
					want = fmt.Sprintf("0 publish t=%d q1 #%d; ", i, i+1) + want
				}
				d.says("P22.6", 1, want, publish(msg("t", fmt.Sprint(i), 1), 1))
			}
			s := d.crew[0].b.Image().Sessions[0].Window
			if len(s.Flight) != may || len(s.Queue) != room {
				d.fault("P22.6", "%d under way, %d wait; want %d, %d", len(s.Flight), len(s.Queue), may, room)
			}
			d.comes("P16.1", 2, hello("o"), "2 connack 0")
			d.says("P16.1", 2, "2 suback #1 [1]; 2 closed", subscribe(1, ask("o", 1)), kind(api.Disconnect, 0))
			for i := range room + 2 {
				d.says("DOC, A copy", 1, "1 puback #1", publish(msg("o", fmt.Sprint(i), 1), 1))
			}
			if n := len(d.crew[0].b.Image().Sessions[1].Window.Queue); n != room {
				d.fault("P22.6", "%d wait offline; want %d", n, room)
			}
		}
	}
}

// TestFilters: as many as may be, and one more.
func TestFilters(t *testing.T) {
	for subs, may := range map[int]int{math.MinInt: 0, -1: 0, 0: 0, 1: 1, 4: 4} {
		c := wide()
		c.Subs = subs
		d := newDesk(t, c)
		d.up("a")
		for i := range may {
			d.says("P22.6", 0, "0 suback #1 [1]", subscribe(1, ask(fmt.Sprint(i), 1)))
		}
		d.says("P22.6: one more", 0, "0 suback #1 [128]", subscribe(1, ask("more", 1)))
		for i := range may {
			d.says("P22.6: one that it has", 0, "0 suback #1 [2 128]", subscribe(1, ask(fmt.Sprint(i), 2), ask("more", 0)))
		}
		d.says("P22.6: what wasn't taken", 0, "0 puback #1", publish(msg("more", "", 1), 1))
		if n := len(d.crew[0].b.Image().Sessions[0].Subs); n != may {
			d.fault("P22.6", "%d filters; want %d", n, may)
		}
	}
}

// TestKept: retained messages at small bounds.
func TestKept(t *testing.T) {
	for most, may := range map[int]int{math.MinInt: 0, -1: 0, 0: 0, 1: 1, 4: 4} {
		c := wide()
		c.Retained = most
		d := newDesk(t, c)
		d.up("a")
		for i := range may + 2 {
			d.says("P22.6", 0, "", publish(retained(fmt.Sprint(i), "x", 0), 0))
		}
		if n := len(d.crew[0].b.Image().Retained); n != may {
			d.fault("P22.6", "%d retained; want %d", n, may)
		}
	}
}

// TestGreatestSession: MaxSubs filters, MaxWindow under way, MaxQueue waiting, all numbers noted; one more of each.
func TestGreatestSession(t *testing.T) {
	x := plain{t, broker.New(api.Config{Window: math.MaxInt, Queue: math.MaxInt, Subs: math.MaxInt, Most: math.MaxInt, Sessions: 2})}
	x.wants("P16.1", opens(0), "")
	x.wants("P16.1", opens(1), "")
	x.says("P16.1", 0, "0 connack 0", hello("a"))
	x.says("P16.1", 1, "1 connack 0", hello("p"))
	var asks []api.Ask
	for i := range api.MaxSubs {
		asks = append(asks, ask(fmt.Sprint("f/", i), 1))
	}
	codes := strings.TrimSuffix(strings.Repeat("1 ", api.MaxSubs), " ")
	x.says("P22.6", 0, "0 suback #1 ["+codes+"]", subscribe(1, asks...))
	x.says("P22.6: one more", 0, "0 suback #2 [128 2]", subscribe(2, ask("#", 1), ask("f/7", 2)))
	for i := range api.MaxID {
		if got, want := told(x.b.Do(data(1, encoded(t, publish(msg("f/7", "", 2), i+1))))), fmt.Sprintf("0 publish f/7= q2 #%d; 1 pubrec #%d", i+1, i+1); got != want {
			t.Fatalf("P22.6: message %d: %s; want %s", i, got, want)
		}
	}
	if got := told(x.b.Do(data(1, encoded(t, publish(msg("f/7", "", 2), 7))))); got != "1 pubrec #7" {
		t.Errorf("DOC, Publish: %s", got)
	}
	more := encoded(t, publish(msg("f/8", "", 1), 9))
	out := x.b.Do(data(1, strings.Repeat(more, api.MaxQueue+1)))
	if len(out) != api.MaxQueue+1 || shown(out[0]) != "1 puback #9" {
		t.Errorf("P22.6: %d outputs", len(out))
	}
	im := x.b.Image()
	s := im.Sessions[0]
	if len(s.Subs) != api.MaxSubs || len(s.Window.Flight) != api.MaxWindow || len(s.Window.Queue) != api.MaxQueue || len(im.Sessions[1].Inbox) != api.MaxID {
		t.Errorf("P22.6: %d filters, %d under way, %d wait, %d noted", len(s.Subs), len(s.Window.Flight), len(s.Window.Queue), len(im.Sessions[1].Inbox))
	}
	x.says("P22.6: a number is free", 0, "0 pubrel #500; 0 publish f/8= q1 #500", kind(api.Pubrec, 500), kind(api.Pubcomp, 500))
	b, e := broker.From(api.Config{Window: math.MaxInt, Queue: math.MaxInt, Subs: math.MaxInt, Sessions: 2, Most: 100}, im)
	if e != api.OK || !image.Same(b.Image(), im) {
		t.Fatalf("P16.9: %d", e)
	}
	b.Do(opens(3))
	if out := b.Do(data(3, encoded(t, hello("a")))); len(out) != api.MaxWindow+1 || shown(out[1]) != "3 publish f/7= q2 #1 dup" {
		t.Errorf("P22.10: %d outputs", len(out))
	}
	begin := time.Now()
	b.Do(opens(4))
	if got := told(b.Do(data(4, encoded(t, clean("a"))))); got != "3 closed; 4 connack 0" {
		t.Errorf("P16.3: %s", got)
	}
	if subs, _ := b.Shapes(); nodes(subs) != 1 {
		t.Errorf("P22.6: %d nodes", nodes(subs))
	}
	if d := time.Since(begin); d > 20*time.Second {
		t.Errorf("a session's end takes %v", d)
	}
}

// TestGreatestBroker: all connections open, MaxSessions sessions, and one more; each has a filter of its own, and all one in common.
func TestGreatestBroker(t *testing.T) {
	x := plain{t, broker.New(api.Config{Window: 1, Subs: 2, Most: 100, Sessions: math.MaxInt, Cache: 10})}
	for n := range api.MaxConn + 1 {
		x.b.Do(opens(n))
		if got := told(x.b.Do(data(n, encoded(t, clean(fmt.Sprintf("c%05d", n)), subscribe(1, ask(fmt.Sprint("f/", n), 0), ask("all", 0)))))); got != fmt.Sprintf("%d connack 0; %d suback #1 [0 0]", n, n) {
			t.Fatalf("P16.1: connection %d: %s", n, got)
		}
	}
	x.wants("P16.1", closes(9), "")
	x.wants("P16.1", opens(9), "")
	x.says("DOC, Connect: the last session", 9, "9 connack 0", hello("last"))
	x.wants("P16.1", closes(9), "")
	x.wants("P16.1", opens(9), "")
	x.says("DOC, Connect: one more than MaxSessions", 9, "9 connack 3; 9 closed", hello("more"))
	x.says("P22.4", 1, "65535 publish f/65535=m q0 #0", publish(msg("f/65535", "m", 0), 0))
	if out := x.b.Do(data(1, encoded(t, publish(msg("all", "m", 0), 0)))); len(out) != 65535 || shown(out[0]) != "0 publish all=m q0 #0" || shown(out[9]) != "10 publish all=m q0 #0" || shown(out[65534]) != "65535 publish all=m q0 #0" {
		t.Errorf("P22.4: %d copies", len(out))
	}
	x.wants("P22.9", tick(), "")
	begin := time.Now()
	for n := range api.MaxConn + 1 {
		x.wants("P16.1", closes(n), "")
	}
	if d := time.Since(begin); d > 20*time.Second {
		t.Errorf("the end of all connections takes %v", d)
	}
	if subs, _ := x.b.Shapes(); nodes(subs) != 1 {
		t.Errorf("P22.6: %d nodes", nodes(subs))
	}
	if im := x.b.Image(); len(im.Sessions) != 1 || im.Sessions[0].Client != "last" {
		t.Errorf("P16.6: %d sessions", len(im.Sessions))
	}
}

// TestGreatestKept: MaxRetained messages, and one more.
func TestGreatestKept(t *testing.T) {
	im := api.Image{}
	for i := range api.MaxRetained {
		im.Retained = append(im.Retained, retained(fmt.Sprintf("%07d", i), "x", 0))
	}
	b, e := broker.From(api.Config{Retained: math.MaxInt, Most: 100, Subs: 1}, im)
	if e != api.OK {
		t.Fatalf("P16.7: %d", e)
	}
	x := plain{t, b}
	x.wants("P16.1", opens(0), "")
	x.says("P16.1", 0, "0 connack 0; 0 suback #1 [0]", hello("a"), publish(retained("more", "x", 0), 0), subscribe(1, ask("more", 0)))
	x.says("DOC, Passing on: there is room again", 0, "0 publish more=y q0 #0", publish(retained("0000007", "", 0), 0), publish(retained("more", "y", 0), 0))
	x.says("DOC, Subscribe", 0, "0 unsuback #2; 0 suback #1 [0]; 0 publish 0000008=x q0 #0 retain", unsubscribe(2, "more"), subscribe(1, ask("0000008", 0)))
	if n := len(b.Image().Retained); n != api.MaxRetained {
		t.Errorf("P22.6: %d retained", n)
	}
	if b, e := broker.From(api.Config{Retained: api.MaxRetained - 1}, im); b != nil || e != 160 {
		t.Errorf("P16.7: %d", e)
	}
}

// TestLongPacket: of the greatest length, passed on at its own quality.
func TestLongPacket(t *testing.T) {
	b := broker.New(api.Config{Subs: 1, Most: math.MaxInt})
	b.Do(opens(0))
	p := publish(msg("t", "", 1), 1)
	p.Msg.Payload = make([]byte, api.MaxLength-5)
	out := b.Take(0, []api.Input{input(hello("a")), input(subscribe(1, ask("t", 2))), input(p)})
	if len(out) != 4 || len(out[2].Data) != api.MaxLength+5 || out[2].Data[0] != 0x32 || shown(out[3]) != "0 puback #1" {
		t.Errorf("P22.4: %d outputs", len(out))
	}
	p.Msg.Payload = append(p.Msg.Payload, 0)
	if got := told(b.Take(0, []api.Input{input(p)})); got != "0 closed" {
		t.Errorf("P16.4: one byte more: %.100s", got)
	}
}
