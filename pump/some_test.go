package pump_test

import (
	"bytes"
	"fmt"
	"math"
	"strings"
	"testing"

	"crier/api"
	"crier/broker"
	"crier/codec"
	"crier/conn"
	"crier/packet"
	"crier/pump"
)

// crews: numbers of workers, those beyond the bounds too.
func crews() []int {
	return []int{math.MinInt, -1, 0, 1, 2, 3, 4, 5, 6, 7, 8, 9, 99, math.MaxInt}
}

// shown tells an output as a text.
func shown(o api.Out) string {
	if o.Closed {
		return fmt.Sprintf("%d closed%X", o.Conn, o.Data)
	}
	return fmt.Sprintf("%d %X", o.Conn, o.Data)
}

func told(l []api.Out) string {
	var b strings.Builder
	for i, o := range l {
		if i > 0 {
			b.WriteString("; ")
		}
		b.WriteString(shown(o))
	}
	return b.String()
}

func sameOuts(a, b []api.Out) bool {
	if len(a) != len(b) {
		return false
	}
	for i := range a {
		if a[i].Conn != b[i].Conn || a[i].Closed != b[i].Closed || !bytes.Equal(a[i].Data, b[i].Data) {
			return false
		}
	}
	return true
}

// script tells events as a text.
func script(l []api.Event) string {
	var b strings.Builder
	for _, e := range l {
		fmt.Fprintf(&b, "(%d, %d, %.60X)", e.Kind, e.Conn, e.Data)
	}
	return b.String()
}

// alone tells what one broker answers that is told event by event.
func alone(c api.Config, l []api.Event) []api.Out {
	b := broker.New(c)
	var out []api.Out
	for _, e := range l {
		out = append(out, b.Do(e)...)
	}
	return out
}

// holds: by that many workers the outputs are the broker's.
func holds(t *testing.T, promise string, c api.Config, l []api.Event, workers ...int) []api.Out {
	t.Helper()
	want := alone(c, l)
	for _, n := range workers {
		if got := pump.Run(c, l, n); !sameOuts(got, want) {
			t.Fatalf("%s: %d workers, %+v, %.9000s:\n%.3000s; want\n%.3000s", promise, n, c, script(l), told(got), told(want))
		}
	}
	return want
}

// wants: by any number of workers the outputs are the broker's, and these.
func wants(t *testing.T, promise string, c api.Config, want string, l ...api.Event) {
	t.Helper()
	if got := told(holds(t, promise, c, l, crews()...)); got != want {
		t.Errorf("%s: %s:\n%s; want\n%s", promise, script(l), got, want)
	}
}

// inputsOf tells what a new conn answers of bytes.
func inputsOf(most int, b []byte) []api.Input {
	var l []api.Input
	c := conn.New(most, 0)
	c.Push(b)
	for in, ok := c.Next(); ok; in, ok = c.Next() {
		l = append(l, in)
	}
	return l
}

func sameInputs(a, b []api.Input) bool {
	if len(a) != len(b) {
		return false
	}
	for i := range a {
		if a[i].What != b[i].What || a[i].Code != b[i].Code || a[i].Err != b[i].Err || !packet.Same(a[i].Packet, b[i].Packet) {
			return false
		}
	}
	return true
}

// reads: by that many workers, all pieces at once, each is read as a conn of its own reads it.
func reads(t *testing.T, most int, pieces [][]byte, workers ...int) {
	t.Helper()
	for _, n := range workers {
		got := pump.Read(most, pieces, n)
		if len(got) != len(pieces) {
			t.Fatalf("P19.2: %d workers: %d answers of %d pieces", n, len(got), len(pieces))
		}
		for i, b := range pieces {
			if want := inputsOf(most, b); !sameInputs(got[i], want) {
				t.Fatalf("P19.2: %d workers, most %d, piece %d, %.200X:\n%+v; want\n%+v", n, most, i, b, got[i], want)
			}
		}
	}
}

// fill writes over a list and its spare room.
func fill[T any](l []T, with T) {
	l = l[:cap(l)]
	for i := range l {
		l[i] = with
	}
}

func data(n int, s string) api.Event {
	return api.Event{Kind: api.Bytes, Conn: n, Data: []byte(s)}
}

func opens(n int) api.Event { return api.Event{Kind: api.Open, Conn: n} }

func closes(n int) api.Event { return api.Event{Kind: api.Close, Conn: n} }

func tick() api.Event { return api.Event{Kind: api.Tick} }

func encoded(t *testing.T, l ...api.Packet) string {
	t.Helper()
	var all strings.Builder
	for _, p := range l {
		b, e := codec.Encode(p)
		if e != api.OK {
			t.Fatalf("P3.1: Encode of %+v: %d", p, e)
		}
		all.Write(b)
	}
	return all.String()
}

func hello(name string) api.Packet { return api.Packet{Kind: api.Connect, Level: 4, Client: name} }

func clean(name string) api.Packet {
	return api.Packet{Kind: api.Connect, Level: 4, Client: name, Clean: true}
}

// alive gives a Connect a keep-alive.
func alive(p api.Packet, keep int) api.Packet {
	p.KeepAlive = keep
	return p
}

// willed gives a Connect a will.
func willed(p api.Packet, m api.Message) api.Packet {
	p.HasWill, p.Will = true, m
	return p
}

func msg(topic, payload string, qos int) api.Message {
	return api.Message{Topic: topic, Payload: []byte(payload), QoS: qos}
}

func publish(m api.Message, id int) api.Packet {
	return api.Packet{Kind: api.Publish, Msg: m, ID: id}
}

func subscribe(id int, l ...api.Ask) api.Packet {
	return api.Packet{Kind: api.Subscribe, ID: id, Asks: l}
}

func ask(filter string, qos int) api.Ask { return api.Ask{Filter: filter, QoS: qos} }

func kind(kind, id int) api.Packet { return api.Packet{Kind: kind, ID: id} }

// wide: a setup in which nothing is short.
func wide() api.Config {
	return api.Config{Window: 100, Queue: 100, Subs: 100, Retained: 100, Sessions: 100, Most: 1 << 20}
}
