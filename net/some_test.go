package net_test

import (
	"bytes"
	"fmt"
	"math/rand"
	"slices"
	"strings"
	"testing"

	"crier/api"
	"crier/broker"
	"crier/client"
	"crier/codec"
	"crier/image"
	"crier/net"
)

// someOf picks one.
func someOf[T any](r *rand.Rand, l ...T) T { return l[r.Intn(len(l))] }

func fill[T any](l []T, with T) {
	l = l[:cap(l)]
	for i := range l {
		l[i] = with
	}
}

// roomy tells a list of its own with spare room.
func roomy[T any](l []T) []T { return append(make([]T, 0, len(l)+3), l...) }

// all: more bytes than are ever on a line.
const all = 1 << 40

// wide: a setup that refuses nothing.
func wide() api.Config {
	return api.Config{Window: 2, Queue: 100, Subs: 9, Retained: 9, Sessions: api.MaxSessions, Most: 1000}
}

func who(name string) api.Who { return api.Who{Name: name, Window: 2} }

func clean(w api.Who) api.Who {
	w.Clean = true
	return w
}

// alive: with that keep-alive.
func alive(w api.Who, keep int) api.Who {
	w.KeepAlive = keep
	return w
}

func msg(topic, payload string, qos int) api.Message {
	return api.Message{Topic: topic, Payload: []byte(payload), QoS: qos}
}

func ask(filter string, qos int) api.Ask { return api.Ask{Filter: filter, QoS: qos} }

func up(client int) api.Move    { return api.Move{Kind: api.MoveUp, Client: client} }
func cut(client int) api.Move   { return api.Move{Kind: api.MoveCut, Client: client} }
func fade(client int) api.Move  { return api.Move{Kind: api.MoveFade, Client: client} }
func leave(client int) api.Move { return api.Move{Kind: api.MoveLeave, Client: client} }
func tick() api.Move            { return api.Move{Kind: api.MoveTick} }
func reboot() api.Move          { return api.Move{Kind: api.MoveReboot} }
func rest() api.Move            { return api.Move{Kind: api.MoveRest} }

func in(client, n int) api.Move  { return api.Move{Kind: api.MoveIn, Client: client, N: n} }
func out(client, n int) api.Move { return api.Move{Kind: api.MoveOut, Client: client, N: n} }

func publish(client int, m api.Message) api.Move {
	return api.Move{Kind: api.MovePublish, Client: client, Msg: m}
}

func subscribe(client int, l ...api.Ask) api.Move {
	return api.Move{Kind: api.MoveSubscribe, Client: client, Asks: l}
}

func unsubscribe(client int, l ...string) api.Move {
	return api.Move{Kind: api.MoveUnsubscribe, Client: client, Filters: l}
}

// wire: a connection of the model's, and the link that it has, or had.
type wire struct {
	number  int
	open    bool // at the broker
	client  int  // -1: no link
	shut    bool
	in, out string
}

// model: what P18.1 to P18.4 say, by plain means: a list of all connections that are open or have a link, and of both lines as texts.
type model struct {
	config api.Config
	b      *broker.Broker
	c      []*client.Client
	wires  []*wire
	given  int // the last connection's number
	seen   map[string]int
}

func newModel(n api.Net) *model {
	n.Config.Users = slices.Clone(n.Config.Users)
	m := &model{config: n.Config, b: broker.New(n.Config), given: -1, seen: map[string]int{}}
	for _, w := range n.Clients {
		c, e := client.New(w)
		if e != api.OK {
			return nil
		}
		m.c = append(m.c, c)
	}
	return m
}

// of tells a client's wire, nil if it has no link.
func (m *model) of(client int) *wire {
	for _, w := range m.wires {
		if w.client == client {
			return w
		}
	}
	return nil
}

// at tells the connection of that number that is open.
func (m *model) at(number int) *wire {
	for _, w := range m.wires {
		if w.open && w.number == number {
			return w
		}
	}
	return nil
}

// sweep takes out what is neither open nor linked.
func (m *model) sweep() {
	m.wires = slices.DeleteFunc(m.wires, func(w *wire) bool { return !w.open && w.client < 0 })
}

// event tells the broker something.
func (m *model) event(kind, number int, data string) {
	for _, o := range m.b.Do(api.Event{Kind: kind, Conn: number, Data: []byte(data)}) {
		w := m.at(o.Conn)
		if w == nil {
			panic("an output for a connection that isn't open")
		}
		switch {
		case o.Closed && w.client < 0:
			m.seen["closing of a faded one"]++
			w.open = false
		case o.Closed:
			w.open, w.shut, w.in = false, true, ""
			if w.out != "" {
				m.seen["shut with bytes"]++
			} else {
				m.seen["shut at once"]++
				m.part(w)
			}
		case w.client < 0:
			m.seen["lost output"]++
		default:
			w.out += string(o.Data)
		}
	}
}

// part: a link is gone.
func (m *model) part(w *wire) {
	m.c[w.client].Down()
	w.client, w.in, w.out = -1, "", ""
}

func (m *model) breaks(w *wire) {
	m.part(w)
	if w.open {
		w.open = false
		m.event(api.Close, w.number, "")
	}
}

func (m *model) lay(client int, b []byte, e api.Errno) api.Errno {
	if w := m.of(client); w != nil && w.shut {
		m.seen["laid on a shut one"] += min(len(b), 1)
	} else if w != nil {
		w.in += string(b)
	}
	return e
}

func (m *model) do(x api.Move) api.Errno {
	defer m.sweep()
	if x.Kind < 1 || x.Kind > 12 {
		return 182
	}
	switch x.Kind {
	case 10:
		m.tick()
		return 0
	case 11:
		return m.reboot()
	case 12:
		m.rest()
		return 0
	}
	if x.Client < 0 || x.Client >= len(m.c) {
		return 181
	}
	c, w := m.c[x.Client], m.of(x.Client)
	switch x.Kind {
	case 1:
		return m.up(x.Client)
	case 5:
		return m.say(x.Client, func() ([]byte, api.Errno) { return c.Publish(x.Msg) })
	case 6:
		return m.say(x.Client, func() ([]byte, api.Errno) { return c.Subscribe(x.Asks) })
	case 7:
		return m.say(x.Client, func() ([]byte, api.Errno) { return c.Unsubscribe(x.Filters) })
	}
	if w == nil {
		return 183
	}
	if w.shut {
		m.seen[fmt.Sprintf("move %d of a shut one", x.Kind)]++
	}
	switch x.Kind {
	case 2:
		m.breaks(w)
	case 3:
		m.part(w)
	case 4:
		return m.leave(w)
	case 8:
		m.in(w, x.N)
	case 9:
		m.out(w, x.N)
	}
	return 0
}

func (m *model) say(client int, call func() ([]byte, api.Errno)) api.Errno {
	b, e := call()
	return m.lay(client, b, e)
}

func (m *model) up(client int) api.Errno {
	number := (m.given + 1) % 65536
	for tried := 0; m.at(number) != nil; tried++ {
		if tried == 65536 {
			return 184
		}
		number = (number + 1) % 65536
	}
	b, e := m.c[client].Up()
	if e != api.OK {
		return e
	}
	m.given = number
	m.wires = append(m.wires, &wire{number: number, open: true, client: client})
	m.event(api.Open, number, "")
	return m.lay(client, b, e)
}

func (m *model) leave(w *wire) api.Errno {
	client := w.client
	b, e := m.c[client].Leave()
	if e != api.OK {
		return e
	}
	m.lay(client, b, e)
	m.in(w, len(w.in))
	if w.client == client {
		m.seen["left with bytes"]++
		m.breaks(w)
	}
	return 0
}

func (m *model) in(w *wire, n int) {
	n = min(max(n, 0), len(w.in))
	came := w.in[:n]
	w.in = w.in[n:]
	if n > 0 {
		m.event(api.Bytes, w.number, came)
	}
}

func (m *model) out(w *wire, n int) {
	n = min(max(n, 0), len(w.out))
	if n == 0 {
		return
	}
	client := w.client
	came := w.out[:n]
	w.out = w.out[n:]
	m.lay(client, m.c[client].Push([]byte(came)), 0)
	if m.c[client].State().Phase == 0 {
		m.seen["down by its own doing"]++
		m.breaks(w)
	} else if w.shut && w.out == "" {
		m.seen["shut and emptied"]++
		m.part(w)
	}
}

func (m *model) tick() {
	m.event(api.Tick, 0, "")
	for i, c := range m.c {
		if w := m.of(i); w != nil && !w.shut {
			b := c.Tick()
			m.seen["pings"] += min(len(b), 1)
			m.lay(i, b, 0)
		}
	}
}

func (m *model) reboot() api.Errno {
	for _, w := range m.wires {
		if w.client >= 0 {
			m.part(w)
		}
	}
	m.wires = nil
	b, e := broker.From(m.config, m.b.Image())
	m.b = b
	return e
}

func (m *model) rest() {
	for slices.ContainsFunc(m.wires, func(w *wire) bool { return w.in+w.out != "" }) {
		for i := range m.c {
			if w := m.of(i); w != nil {
				m.in(w, len(w.in))
			}
			if w := m.of(i); w != nil {
				m.out(w, len(w.out))
			}
		}
	}
}

// state tells what State is to answer.
func (m *model) state(client int) (api.State, api.Link) {
	if client < 0 || client >= len(m.c) {
		return api.State{}, api.Link{}
	}
	s := m.c[client].State()
	if w := m.of(client); w != nil {
		return s, api.Link{Up: true, Shut: w.shut, In: len(w.in), Out: len(w.out)}
	}
	return s, api.Link{}
}

func sameTold(a, b []api.Told) bool {
	return slices.EqualFunc(a, b, func(x, y api.Told) bool {
		return x.Dup == y.Dup && x.Msg.Topic == y.Msg.Topic && bytes.Equal(x.Msg.Payload, y.Msg.Payload) && x.Msg.QoS == y.Msg.QoS && x.Msg.Retain == y.Msg.Retain
	})
}

// told tells messages in one line: topic, payload, quality; r of the retain mark, ' of Dup.
func told(l []api.Told) string {
	var all []string
	for _, x := range l {
		s := fmt.Sprintf("%s=%.60s q%d", x.Msg.Topic, x.Msg.Payload, x.Msg.QoS)
		if x.Msg.Retain {
			s += "r"
		}
		if x.Dup {
			s += "'"
		}
		all = append(all, s)
	}
	return strings.Join(all, ", ")
}

func spoilTold(l []api.Told) {
	for _, x := range l {
		fill(x.Msg.Payload, 0xF0)
	}
	fill(l, api.Told{Msg: api.Message{Topic: "spoilt"}})
}

// place: a net and its model, told the same. What the net is handed and what it answers is spoilt.
type place struct {
	t     *testing.T
	x     *net.Net
	m     *model
	moves []string // the last ones
	count int
}

func newPlace(t *testing.T, c api.Config, l ...api.Who) *place {
	t.Helper()
	n := api.Net{Config: c, Clients: l}
	p := &place{t: t, m: newModel(n)}
	n.Config.Users, n.Clients = roomy(c.Users), roomy(l)
	x, e := net.New(n)
	if x == nil || e != api.OK || p.m == nil {
		t.Fatalf("P18.1: New(%+v): %d", n, e)
	}
	fill(n.Config.Users, api.User{Name: "spoilt"})
	fill(n.Clients, api.Who{Name: "spoilt"})
	p.x = x
	p.hold()
	return p
}

func (p *place) fault(promise, form string, args ...any) {
	p.t.Helper()
	p.t.Fatalf("%s: %s\n%+v\n%s", promise, fmt.Sprintf(form, args...), p.m.config, strings.Join(p.moves, "\n"))
}

func (p *place) note(s string) {
	if len(p.moves) > 80 {
		p.moves = append([]string{".."}, p.moves[41:]...)
	}
	p.moves = append(p.moves, s)
}

// do lets the same happen in both, and tells the answer.
func (p *place) do(m api.Move) api.Errno {
	p.t.Helper()
	p.note(fmt.Sprintf("%.300s", fmt.Sprintf("%+v", m)))
	handed := m
	handed.Msg.Payload, handed.Asks, handed.Filters = roomy(m.Msg.Payload), roomy(m.Asks), roomy(m.Filters)
	got, want := p.x.Do(handed), p.m.do(m)
	fill(handed.Msg.Payload, 0xF0)
	fill(handed.Asks, ask("spoilt", 9))
	fill(handed.Filters, "spoilt")
	if got != want {
		p.fault("P18.3", "%d; want %d", got, want)
	}
	p.count++
	p.hold()
	return got
}

// goes: all of these are done.
func (p *place) goes(l ...api.Move) {
	p.t.Helper()
	for _, m := range l {
		if e := p.do(m); e != api.OK {
			p.fault("P18.3", "%d", e)
		}
	}
}

// refuses: that move is refused with this error.
func (p *place) refuses(want api.Errno, m api.Move) {
	p.t.Helper()
	if e := p.do(m); e != want {
		p.fault("P18.3", "%d; want %d", e, want)
	}
}

// hold holds what the net says of itself against the model.
func (p *place) hold() {
	p.t.Helper()
	for i := -1; i <= len(p.m.c); i++ {
		s, l := p.x.State(i)
		if ws, wl := p.m.state(i); s != ws || l != wl {
			p.fault("P18.4", "State(%d): %+v %+v; want %+v %+v", i, s, l, ws, wl)
		}
		if s.Phase != api.PhaseDown != l.Up {
			p.fault("P18.2", "State(%d): %+v %+v", i, s, l)
		}
	}
	if p.count%8 == 0 {
		p.holdAll()
	}
}

func (p *place) holdAll() {
	p.t.Helper()
	for i := -1; i <= len(p.m.c); i++ {
		var want []api.Told
		if i >= 0 && i < len(p.m.c) {
			want = p.m.c[i].Got()
		}
		l := p.x.Got(i)
		if !sameTold(l, want) {
			p.fault("P18.4", "Got(%d): %s; want %s", i, told(l), told(want))
		}
		spoilTold(l)
	}
	im := p.x.Image()
	if want := p.m.b.Image(); !image.Same(im, want) {
		p.fault("P18.4", "Image: %+v; want %+v", im, want)
	}
	spoilImage(im)
}

func spoilImage(im api.Image) {
	for _, s := range im.Sessions {
		for _, f := range s.Window.Flight {
			fill(f.Msg.Payload, 0xF0)
		}
		for _, m := range s.Window.Queue {
			fill(m.Payload, 0xF0)
		}
		fill(s.Subs, ask("spoilt", 7))
		fill(s.Window.Flight, api.Flight{ID: -1})
		fill(s.Window.Queue, api.Message{})
		fill(s.Inbox, -1)
	}
	for _, m := range im.Retained {
		fill(m.Payload, 0xF0)
	}
	fill(im.Sessions, api.Session{Client: "spoilt"})
	fill(im.Retained, api.Message{Topic: "spoilt"})
}

// stands: a client and its link stand so.
func (p *place) stands(client int, s api.State, l api.Link) {
	p.t.Helper()
	if gs, gl := p.x.State(client); gs != s || gl != l {
		p.fault("P18.4", "State(%d): %+v %+v; want %+v %+v", client, gs, gl, s, l)
	}
}

// got: a client was told that.
func (p *place) got(client int, want string) {
	p.t.Helper()
	if s := told(p.x.Got(client)); s != want {
		p.fault("P18.4", "Got(%d): %s; want %s", client, s, want)
	}
}

// size tells how many bytes a packet has.
func size(t *testing.T, x api.Packet) int {
	t.Helper()
	b, e := codec.Encode(x)
	if e != api.OK {
		t.Fatalf("P3.1: %+v: %d", x, e)
	}
	return len(b)
}

// isUp: a client that is up, everything else being zero.
func isUp() api.State { return api.State{Phase: api.PhaseUp} }
