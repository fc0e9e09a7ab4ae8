package client_test

import (
	"bytes"
	"fmt"
	"math/rand"
	"slices"
	"strings"
	"testing"

	"crier/api"
	"crier/client"
	"crier/codec"
	"crier/packet"
)

// someOf picks one.
func someOf[T any](r *rand.Rand, l ...T) T { return l[r.Intn(len(l))] }

func fill[T any](l []T, with T) {
	l = l[:cap(l)]
	for i := range l {
		l[i] = with
	}
}

// roomy tells a list of its own with spare room.
func roomy[T any](l []T) []T { return append(make([]T, 0, len(l)+3), l...) }

// encoded tells right packets' bytes, one behind the other.
func encoded(t *testing.T, l ...api.Packet) string {
	t.Helper()
	s := ""
	for _, p := range l {
		b, e := codec.Encode(p)
		if e != api.OK {
			t.Fatalf("P3.1: Encode of %+v: %d", p, e)
		}
		s += string(b)
	}
	return s
}

func connect(w api.Who) api.Packet {
	return api.Packet{Kind: api.Connect, Level: 4, Clean: w.Clean, KeepAlive: w.KeepAlive, Client: w.Name}
}

func connack(code int, present bool) api.Packet {
	return api.Packet{Kind: api.Connack, Code: code, Present: present}
}

func msg(topic, payload string, qos int) api.Message {
	return api.Message{Topic: topic, Payload: []byte(payload), QoS: qos}
}

func retained(m api.Message) api.Message {
	m.Retain = true
	return m
}

func publish(m api.Message, id int) api.Packet {
	return api.Packet{Kind: api.Publish, Msg: m, ID: id}
}

func dup(p api.Packet) api.Packet {
	p.Dup = true
	return p
}

func kind(kind, id int) api.Packet { return api.Packet{Kind: kind, ID: id} }

func ask(filter string, qos int) api.Ask { return api.Ask{Filter: filter, QoS: qos} }

func subscribe(id int, l ...api.Ask) api.Packet {
	return api.Packet{Kind: api.Subscribe, ID: id, Asks: l}
}

func unsubscribe(id int, l ...string) api.Packet {
	return api.Packet{Kind: api.Unsubscribe, ID: id, Filters: l}
}

func suback(id int, codes ...int) api.Packet {
	return api.Packet{Kind: api.Suback, ID: id, Codes: codes}
}

// kinds: a right packet of each kind, at its number.
func kinds() []api.Packet {
	m := retained(msg("a/b", "hi", 1))
	return []api.Packet{
		api.Connect:     {Kind: api.Connect, Level: 4, KeepAlive: 7, Client: "c", HasWill: true, Will: m, HasUser: true, User: "u", HasPass: true, Pass: []byte("p")},
		api.Connack:     connack(2, false),
		api.Publish:     dup(publish(m, 3)),
		api.Puback:      kind(api.Puback, 4),
		api.Pubrec:      kind(api.Pubrec, 5),
		api.Pubrel:      kind(api.Pubrel, 6),
		api.Pubcomp:     kind(api.Pubcomp, 7),
		api.Subscribe:   subscribe(8, ask("a/#", 2), ask("+", 0)),
		api.Suback:      suback(9, 0, 128),
		api.Unsubscribe: unsubscribe(10, "a/#", "+"),
		api.Unsuback:    kind(api.Unsuback, 11),
		api.Pingreq:     kind(api.Pingreq, 0),
		api.Pingresp:    kind(api.Pingresp, 0),
		api.Disconnect:  kind(api.Disconnect, 0),
	}
}

// faults: bytes that are wrong as soon as the last one of them is there.
func faults() []string {
	return []string{
		"\x00", "\xF0", "\xFF", "\xC1", "\x36", "\x38", "\x21", "\xD1", "\xD0\x80\x80\x80\x80",
		"\x40\x03\x00\x01\x00", "\x40\x01\x00", "\x40\x02\x00\x00", "\xD0\x01\x07", "\x20\x01\x00", "\x20\x02\x02\x00", "\x20\x02\x01\x03", "\x20\x03\x00\x00\x00",
		"\x30\x04\x00\x02a\x00", "\x30\x04\x00\x02\xFFa", "\x30\x03\x00\x01#", "\x30\x02\x00\x00", "\x32\x05\x00\x01t\x00\x00", "\x34\x04\x00\x01t\x00",
		"\x90\x02\x00\x01", "\x90\x03\x00\x00\x00", "\x90\x03\x00\x01\x03", "\xB0\x02\x00\x00", "\x62\x02\x00\x00", "\x60\x02\x00\x01",
	}
}

// model: what P17.1 to P17.7 say of a client, by plain lists; its window's rules (layer 12) are its own too.
type model struct {
	who         api.Who
	phase       int
	held        string // what was read of packets that aren't whole
	last        int    // the packet number given last
	under       []api.Flight
	wait        []api.Message
	open        []int
	came        []int
	told        []api.Told
	present     bool
	code        int
	clock, sent int          // sent: when something was sent last
	out         []api.Packet // what the call sends
	seen        map[string]int
}

func newModel(w api.Who) *model {
	w.KeepAlive = min(max(w.KeepAlive, 0), 65535)
	w.Window = min(max(w.Window, 1), 65535)
	return &model{who: w, seen: map[string]int{}}
}

// send lays a packet behind the call's others.
func (m *model) send(p api.Packet) {
	m.out = append(m.out, packet.Copy(p))
	m.sent = m.clock
	name := "sent " + packet.Name(p.Kind)
	if p.Dup {
		name += " dup"
	}
	m.seen[name]++
}

func (m *model) number() int {
	for {
		m.last = m.last%65535 + 1
		if under := func(f api.Flight) bool { return f.ID == m.last }; !slices.ContainsFunc(m.under, under) && !slices.Contains(m.open, m.last) {
			return m.last
		}
	}
}

func (m *model) launch(x api.Message) {
	id := m.number()
	m.under = append(m.under, api.Flight{ID: id, Msg: x})
	m.send(publish(x, id))
}

func (m *model) flow() {
	for len(m.wait) > 0 && len(m.under) < m.who.Window {
		first := m.wait[0]
		m.wait = m.wait[1:]
		m.launch(first)
	}
}

func (m *model) up() api.Errno {
	if m.phase != 0 {
		return 171
	}
	m.phase = 1
	if m.who.Clean {
		m.last, m.under, m.wait, m.came = 0, nil, nil, nil
	}
	m.send(connect(m.who))
	return 0
}

func (m *model) down() { m.phase, m.held, m.open = 0, "", nil }

func (m *model) leave() api.Errno {
	if m.phase != 2 {
		return 172
	}
	m.send(kind(api.Disconnect, 0))
	m.down()
	return 0
}

func (m *model) publish(x api.Message) api.Errno {
	switch {
	case packet.CheckMessage(x) != api.OK:
		return 173
	case x.QoS == 0 && m.phase != 2:
		return 172
	case x.QoS == 0:
		m.send(publish(x, 0))
	case m.who.Clean && m.phase != 2:
		return 172
	case m.phase == 2 && len(m.under) < m.who.Window:
		m.launch(x)
	case len(m.wait) >= 65536:
		return 174
	default:
		m.wait = append(m.wait, x)
	}
	return 0
}

// ask: a Subscribe or an Unsubscribe.
func (m *model) ask(p api.Packet) api.Errno {
	if m.phase != 2 {
		return 172
	}
	p.ID = 77
	if packet.Check(p) != api.OK || len(m.open) >= 65535-m.who.Window {
		return 175
	}
	p.ID = m.number()
	m.open = append(m.open, p.ID)
	m.send(p)
	return 0
}

func (m *model) tick() {
	m.clock++
	if k := m.who.KeepAlive; m.phase == 2 && k > 0 && m.clock-m.sent >= k {
		m.send(kind(api.Pingreq, 0))
	}
}

func (m *model) push(s string) {
	if m.phase == 0 {
		return
	}
	m.held += s
	for m.phase != 0 {
		p, n, err := codec.Decode([]byte(m.held), 268435455)
		if err != nil {
			m.seen["wrong"]++
			m.down()
			return
		}
		if n == 0 {
			return
		}
		m.held = m.held[n:]
		m.seen[fmt.Sprintf("came %s in %d", packet.Name(p.Kind), m.phase)]++
		if m.phase == 1 {
			m.greet(p)
		} else {
			m.hear(p)
		}
	}
}

func (m *model) greet(p api.Packet) {
	if p.Kind != 2 {
		m.down()
		return
	}
	if m.code = p.Code; m.code != 0 {
		m.down()
		return
	}
	m.phase, m.present = 2, p.Present
	if !p.Present {
		m.came = nil
	}
	for _, f := range m.under {
		if f.Released {
			m.send(kind(api.Pubrel, f.ID))
		} else {
			m.send(dup(publish(f.Msg, f.ID)))
		}
	}
	m.flow()
}

func (m *model) hear(p api.Packet) {
	switch p.Kind {
	case 3:
		m.receive(p)
	case 4, 5, 7:
		m.acknowledge(p)
	case 6:
		m.came = slices.DeleteFunc(m.came, func(id int) bool { return id == p.ID })
		m.send(kind(7, p.ID))
	case 9, 11:
		m.open = slices.DeleteFunc(m.open, func(id int) bool { return id == p.ID })
	case 13:
	default:
		m.down()
	}
}

func (m *model) receive(p api.Packet) {
	noted := p.Msg.QoS == 2 && slices.Contains(m.came, p.ID)
	if !noted {
		m.told = append(m.told, api.Told{Msg: p.Msg, Dup: p.Dup})
	} else {
		m.seen["not told"]++
	}
	if p.Msg.QoS == 2 && !noted {
		m.came = append(m.came, p.ID)
	}
	if p.Msg.QoS > 0 {
		m.send(kind(3+p.Msg.QoS, p.ID))
	}
}

func (m *model) acknowledge(p api.Packet) {
	i := slices.IndexFunc(m.under, func(f api.Flight) bool { return f.ID == p.ID })
	if i < 0 {
		return
	}
	f := &m.under[i]
	switch {
	case p.Kind == 5 && (f.Released || f.Msg.QoS == 2):
		f.Msg, f.Released = api.Message{}, true
		m.send(kind(6, p.ID))
	case p.Kind == 4 && f.Msg.QoS == 1 || p.Kind == 7 && f.Released:
		m.under = slices.Delete(slices.Clone(m.under), i, i+1)
		m.flow()
	}
}

func (m *model) state() api.State {
	return api.State{Phase: m.phase, Present: m.present, Code: m.code, Under: len(m.under), Waiting: len(m.wait), Open: len(m.open)}
}

func sameTold(a, b []api.Told) bool {
	return slices.EqualFunc(a, b, func(x, y api.Told) bool {
		return x.Dup == y.Dup && x.Msg.Topic == y.Msg.Topic && bytes.Equal(x.Msg.Payload, y.Msg.Payload) && x.Msg.QoS == y.Msg.QoS && x.Msg.Retain == y.Msg.Retain
	})
}

func toldText(l []api.Told) string {
	s := ""
	for _, x := range l {
		s += fmt.Sprintf("{%s=%.60q q%d retain %t dup %t}", x.Msg.Topic, x.Msg.Payload, x.Msg.QoS, x.Msg.Retain, x.Dup)
	}
	return s
}

// twin: two clients and their model, told the same; to the second one bytes come in pieces. What they are handed and what they answer is spoilt.
type twin struct {
	t    *testing.T
	c    [2]*client.Client
	m    *model
	when []string // what was done
	told int
}

func newTwin(t *testing.T, w api.Who) *twin {
	t.Helper()
	x := &twin{t: t, m: newModel(w)}
	for i := range x.c {
		c, e := client.New(w)
		if c == nil || e != api.OK {
			t.Fatalf("P17.1: New(%.100q): %d", fmt.Sprintf("%+v", w), e)
		}
		x.c[i] = c
	}
	x.say("New(%+v)", w)
	x.hold()
	return x
}

func (x *twin) say(form string, args ...any) {
	if len(x.when) > 60 {
		x.when = append([]string{".."}, x.when[31:]...)
	}
	x.when = append(x.when, fmt.Sprintf(form, args...))
}

func (x *twin) fault(promise, form string, args ...any) {
	x.t.Helper()
	x.t.Fatalf("%s: %s\n%s", promise, fmt.Sprintf(form, args...), strings.Join(x.when, "\n"))
}

// hold holds what both say of themselves against the model.
func (x *twin) hold() {
	x.t.Helper()
	for _, c := range x.c {
		if got, want := c.State(), x.m.state(); got != want {
			x.fault("P17.7", "State: %+v; want %+v", got, want)
		}
	}
	if x.told == len(x.m.told) && len(x.when)%8 != 0 {
		return
	}
	x.told = len(x.m.told)
	for _, c := range x.c {
		l := c.Got()
		if !sameTold(l, x.m.told) {
			x.fault("P17.7", "Got: %s; want %s", toldText(l), toldText(x.m.told))
		}
		spoilTold(l)
	}
}

func spoilTold(l []api.Told) {
	for _, x := range l {
		fill(x.Msg.Payload, 0xF0)
	}
	fill(l, api.Told{Msg: api.Message{Topic: "spoilt"}})
}

// both tells both clients something, and holds their answers against what the model sends; it tells these bytes.
func (x *twin) both(promise string, want api.Errno, do func(i int, c *client.Client) ([]byte, api.Errno)) string {
	x.t.Helper()
	bytes := encoded(x.t, x.m.out...)
	x.m.out = nil
	for i, c := range x.c {
		b, e := do(i, c)
		if string(b) != bytes || e != want {
			x.fault(promise, "%d: %.400X, %d; want %.400X, %d", i, b, e, bytes, want)
		}
		fill(b, 0xF0)
	}
	x.hold()
	return bytes
}

func (x *twin) up() string {
	x.t.Helper()
	x.say("Up")
	return x.both("P17.2", x.m.up(), func(_ int, c *client.Client) ([]byte, api.Errno) { return c.Up() })
}

func (x *twin) down() {
	x.t.Helper()
	x.say("Down")
	x.m.down()
	for _, c := range x.c {
		c.Down()
	}
	x.hold()
}

func (x *twin) leave() string {
	x.t.Helper()
	x.say("Leave")
	return x.both("P17.2", x.m.leave(), func(_ int, c *client.Client) ([]byte, api.Errno) { return c.Leave() })
}

func (x *twin) publish(m api.Message) string {
	x.t.Helper()
	x.say("Publish(%.60q, %.60q, %d, %t)", m.Topic, m.Payload, m.QoS, m.Retain)
	return x.both("P17.3", x.m.publish(m), func(_ int, c *client.Client) ([]byte, api.Errno) {
		handed := m
		handed.Payload = roomy(m.Payload)
		defer fill(handed.Payload, 0xF0)
		return c.Publish(handed)
	})
}

func (x *twin) subscribe(l ...api.Ask) string {
	x.t.Helper()
	x.say("Subscribe(%.200s)", fmt.Sprintf("%+v", l))
	return x.both("P17.4", x.m.ask(subscribe(0, l...)), func(_ int, c *client.Client) ([]byte, api.Errno) {
		handed := roomy(l)
		defer fill(handed, ask("spoilt", 9))
		return c.Subscribe(handed)
	})
}

func (x *twin) unsubscribe(l ...string) string {
	x.t.Helper()
	x.say("Unsubscribe(%.200s)", fmt.Sprintf("%q", l))
	return x.both("P17.4", x.m.ask(unsubscribe(0, l...)), func(_ int, c *client.Client) ([]byte, api.Errno) {
		handed := roomy(l)
		defer fill(handed, "spoilt")
		return c.Unsubscribe(handed)
	})
}

func (x *twin) push(s string) string {
	x.t.Helper()
	x.say("Push(%.200X)", s)
	x.m.push(s)
	return x.both("P17.5", api.OK, func(i int, c *client.Client) ([]byte, api.Errno) {
		if i == 0 {
			return pushed(c, s), api.OK
		}
		var sent []byte
		for i, rest := 0, s; i == 0 || rest != ""; i++ {
			k := min([]int{1, 0, 2, 9, 0, 1, 1, 40}[(i+len(s))%8], len(rest))
			part := pushed(c, rest[:k])
			sent = append(sent, part...)
			fill(part, 0xF0)
			rest = rest[k:]
		}
		return sent, api.OK
	})
}

// comes: these packets come at once.
func (x *twin) comes(l ...api.Packet) string {
	x.t.Helper()
	return x.push(encoded(x.t, l...))
}

func (x *twin) tick() string {
	x.t.Helper()
	x.say("Tick")
	x.m.tick()
	return x.both("P17.6", api.OK, func(_ int, c *client.Client) ([]byte, api.Errno) { return c.Tick(), api.OK })
}

// link: it comes up.
func (x *twin) link(present bool) string {
	x.t.Helper()
	x.up()
	return x.comes(connack(0, present))
}

// pushed hands bytes in, which must not be changed, and spoils them.
func pushed(c *client.Client, s string) []byte {
	b := append(roomy([]byte(s)), "behind"...)
	sent := c.Push(b[:len(s)])
	if string(b) != s+"behind" {
		return []byte("Push changed what it was handed")
	}
	fill(b, 0xF0)
	return sent
}

// made tells a client, told nothing.
func made(t *testing.T, w api.Who) *client.Client {
	t.Helper()
	c, e := client.New(w)
	if c == nil || e != api.OK {
		t.Fatalf("P17.1: New: %d", e)
	}
	return c
}

// linked tells one that is up.
func linked(t *testing.T, w api.Who) *client.Client {
	t.Helper()
	c := made(t, w)
	c.Up()
	if b := c.Push([]byte("\x20\x02\x00\x00")); len(b) > 0 || c.State().Phase != api.PhaseUp {
		t.Fatalf("P17.5: a Connack: %X, %+v", b, c.State())
	}
	return c
}

// wants: these packets' bytes, and that error.
func wants(t *testing.T, what string, b []byte, e, want api.Errno, l ...api.Packet) {
	t.Helper()
	if s := encoded(t, l...); string(b) != s || e != want {
		t.Errorf("%s: %.300X, %d; want %.300X, %d", what, b, e, s, want)
	}
}

// says: what comes is answered so.
func says(t *testing.T, what string, c *client.Client, came string, l ...api.Packet) {
	t.Helper()
	wants(t, what, c.Push([]byte(came)), api.OK, api.OK, l...)
}

func stands(t *testing.T, what string, c *client.Client, want api.State) {
	t.Helper()
	if got := c.State(); got != want {
		t.Errorf("%s: State: %+v; want %+v", what, got, want)
	}
}

func got(t *testing.T, what string, c *client.Client, want ...api.Told) {
	t.Helper()
	if l := c.Got(); !sameTold(l, want) {
		t.Errorf("%s: Got: %s; want %s", what, toldText(l), toldText(want))
	}
}
