package conn_test

import (
	"fmt"
	"math/rand"
	"strings"
	"testing"

	"crier/api"
	"crier/codec"
	"crier/conn"
	"crier/packet"
)

// someOf picks one.
func someOf[T any](r *rand.Rand, l ...T) T { return l[r.Intn(len(l))] }

// connect tells a Connect of a level and a keep-alive.
func connect(level, keep int) api.Packet {
	return api.Packet{Kind: api.Connect, Level: level, Clean: true, KeepAlive: keep, Client: "c"}
}

// hello tells its bytes.
func hello(t *testing.T, level, keep int) string {
	t.Helper()
	return encoded(t, connect(level, keep))
}

// encoded tells a right packet's bytes.
func encoded(t *testing.T, p api.Packet) string {
	t.Helper()
	b, e := codec.Encode(p)
	if e != api.OK {
		t.Fatalf("P3.1: Encode of %+v: %d", p, e)
	}
	return string(b)
}

// kinds: a right packet of each kind, at its number.
func kinds() []api.Packet {
	m := api.Message{Topic: "a/b", Payload: []byte("hi"), QoS: 1, Retain: true}
	return []api.Packet{
		api.Connect:     {Kind: api.Connect, Level: 4, KeepAlive: 7, Client: "c", HasWill: true, Will: m, HasUser: true, User: "u", HasPass: true, Pass: []byte("p")},
		api.Connack:     {Kind: api.Connack, Code: 2},
		api.Publish:     {Kind: api.Publish, Msg: m, ID: 3, Dup: true},
		api.Puback:      {Kind: api.Puback, ID: 4},
		api.Pubrec:      {Kind: api.Pubrec, ID: 5},
		api.Pubrel:      {Kind: api.Pubrel, ID: 6},
		api.Pubcomp:     {Kind: api.Pubcomp, ID: 7},
		api.Subscribe:   {Kind: api.Subscribe, ID: 8, Asks: []api.Ask{{Filter: "a/#", QoS: 2}, {Filter: "+", QoS: 0}}},
		api.Suback:      {Kind: api.Suback, ID: 9, Codes: []int{0, 128}},
		api.Unsubscribe: {Kind: api.Unsubscribe, ID: 10, Filters: []string{"a/#", "+"}},
		api.Unsuback:    {Kind: api.Unsuback, ID: 11},
		api.Pingreq:     {Kind: api.Pingreq},
		api.Pingresp:    {Kind: api.Pingresp},
		api.Disconnect:  {Kind: api.Disconnect},
	}
}

// faults: bytes that are wrong, with most 100, and the number that is told when the last one of them is there.
func faults() []fault {
	return []fault{
		{"\x00", 30}, {"\xF0", 30}, {"\xC1", 31}, {"\x36", 31}, {"\x38", 31}, {"\x11", 31}, {"\xD1", 31},
		{"\xC0\x80\x80\x80\x80", 12}, {"\x10\x65", 32}, {"\xC0\x65", 32}, {"\xE0\xE5\x00", 32},
		{"\x40\x03\x00\x0A\x00", 15}, {"\x40\x01\x00", 10}, {"\xE0\x01\x07", 15}, {"\xD0\x01\x07", 15},
		{"\x10\x02\x00\x00", 33}, {"\x10\x0A\x00\x04MQTT\x05\x01\x00\x00", 34}, {"\x20\x02\x02\x00", 34},
		{"\x10\x0C\x00\x04MQTT\x05\x10\x00\x00\x00\x00", 21}, {"\x10\x0E\x00\x04MQTT\x05\x40\x00\x00\x00\x00\x00\x00", 29}, {"\x10\x0D\x00\x04MQTT\x05\x02\x00\x00\x00\x01\x00", 14},
		{"\x30\x04\x00\x02a\x00", 14}, {"\x30\x04\x00\x02\xFFa", 13}, {"\x40\x02\x00\x00", 26}, {"\x30\x03\x00\x01#", 23},
		{"\x82\x02\x00\x01", 28}, {"\x90\x02\x00\x01", 28}, {"\x82\x06\x00\x01\x00\x01a\x03", 25}, {"\xA2\x06\x00\x01\x00\x02#a", 24},
	}
}

type fault struct {
	b string
	e api.Errno
}

// The ways of standing.
const (
	isFresh = iota
	isJoined
	isOver
)

// model: what P14.1 to P14.4 say of a conn: all bytes that came, how many of them are done with, a clock.
type model struct {
	most, patience int
	stands         int
	all            string
	done           int
	keep           int
	clock, last    int // last: when it was made, or the last InPacket was
}

func newModel(most, patience int) *model { return &model{most: most, patience: patience} }

func (m *model) push(s string) {
	if m.stands != isOver {
		m.all += s
	}
}

func (m *model) next() (api.Input, bool) {
	if m.stands == isOver {
		return api.Input{}, false
	}
	p, n, err := codec.Decode([]byte(m.all[m.done:]), m.most)
	m.done += n
	in := api.Input{What: api.InEnd}
	switch {
	case err != nil:
		in.Err = err.(*api.Fault).Err
	case n == 0:
		return api.Input{}, false
	case m.stands == isFresh && p.Kind == 1 && p.Level != 4:
		in = api.Input{What: api.InRefuse, Code: 1}
	case m.stands == isFresh && p.Kind != 1:
		in.Err = 140
	case m.stands == isJoined && p.Kind == 1:
		in.Err = 141
	case p.Kind == 2 || p.Kind == 9 || p.Kind == 11 || p.Kind == 13:
		in.Err = 142
	default:
		in = api.Input{What: api.InPacket, Packet: p}
	}
	m.took(in)
	return in, true
}

func (m *model) took(in api.Input) {
	if m.stands == isOver {
		return
	}
	if in.What != 1 || in.Packet.Kind == 14 {
		m.stands = isOver
		return
	}
	m.last = m.clock
	if in.Packet.Kind == 1 {
		m.stands, m.keep = isJoined, min(max(in.Packet.KeepAlive, 0), 65535)
	}
}

func (m *model) tick() bool {
	m.clock++
	switch silence := m.clock - m.last; m.stands {
	case isFresh:
		return m.patience > 0 && silence > m.patience
	case isJoined:
		return m.keep > 0 && 2*silence > 3*m.keep
	}
	return false
}

// twin: a conn and its model, told the same.
type twin struct {
	t *testing.T
	c *conn.Conn
	m *model
	// when: what was done so far
	when []string
}

func newTwin(t *testing.T, most, patience int) *twin {
	x := &twin{t: t, c: conn.New(most, patience), m: newModel(most, patience)}
	x.say("New(%d, %d)", most, patience)
	return x
}

func (x *twin) say(form string, args ...any) {
	if len(x.when) > 40 {
		x.when = append([]string{".."}, x.when[21:]...)
	}
	x.when = append(x.when, fmt.Sprintf(form, args...))
}

func (x *twin) fault(promise, form string, args ...any) {
	x.t.Helper()
	x.t.Fatalf("%s: %s: %s", promise, strings.Join(x.when, ", "), fmt.Sprintf(form, args...))
}

func (x *twin) hold() {
	x.t.Helper()
	if got, want := x.c.Over(), x.m.stands == isOver; got != want {
		x.fault("P14.1", "Over: %t", got)
	}
}

func (x *twin) push(s string) {
	x.t.Helper()
	x.say("Push(%.60X)", s)
	push(x.c, s)
	x.m.push(s)
	x.hold()
}

func (x *twin) next() (api.Input, bool) {
	x.t.Helper()
	x.say("Next")
	got, ok := x.c.Next()
	if want, wok := x.m.next(); ok != wok || !same(got, want) {
		x.fault("P14.2", "%s, %t; want %s, %t", told(got), ok, told(want), wok)
	}
	x.hold()
	return got, ok
}

// all asks till nothing is told.
func (x *twin) all() {
	x.t.Helper()
	for range len(x.m.all) + 1 {
		if _, ok := x.next(); !ok {
			return
		}
	}
	x.fault("P14.2", "there is no end of it")
}

func (x *twin) took(in api.Input) {
	x.t.Helper()
	x.say("Took(%s)", told(in))
	x.c.Took(in)
	x.m.took(in)
	x.hold()
}

func (x *twin) tick() {
	x.t.Helper()
	x.say("Tick")
	if got, want := x.c.Tick(), x.m.tick(); got != want {
		x.fault("P14.3", "%t; want %t", got, want)
	}
	x.hold()
}

func (x *twin) ticks(n int) {
	x.t.Helper()
	for range n {
		x.tick()
	}
}

func (x *twin) stop() {
	x.t.Helper()
	x.say("Stop")
	x.c.Stop()
	x.m.stands = isOver
	x.hold()
}

// push hands a text's bytes in, and spoils the list behind that.
func push(c *conn.Conn, s string) {
	b := append(make([]byte, 0, len(s)+4), s...)
	c.Push(b)
	overwrite(b)
}

func overwrite(b []byte) {
	b = b[:cap(b)]
	for i := range b {
		b[i] = 0xF0
	}
}

// same: all fields, an empty list being none.
func same(a, b api.Input) bool {
	return a.What == b.What && a.Code == b.Code && a.Err == b.Err && packet.Same(a.Packet, b.Packet)
}

func sameAll(a, b []api.Input) bool {
	if len(a) != len(b) {
		return false
	}
	for i := range a {
		if !same(a[i], b[i]) {
			return false
		}
	}
	return true
}

// told tells an input as a text.
func told(in api.Input) string {
	return fmt.Sprintf("{%d, code %d, error %d, %.2000s}", in.What, in.Code, in.Err, fmt.Sprintf("%+v", in.Packet))
}

func toldAll(l []api.Input) string {
	var b strings.Builder
	for _, in := range l {
		b.WriteString(told(in))
	}
	return b.String()
}

func taken(p api.Packet) api.Input { return api.Input{What: api.InPacket, Packet: p} }

func ended(e api.Errno) api.Input { return api.Input{What: api.InEnd, Err: e} }

// wantNext: Next answers that, and true.
func wantNext(t *testing.T, what string, c *conn.Conn, want api.Input) {
	t.Helper()
	if got, ok := c.Next(); !ok || !same(got, want) {
		t.Errorf("%s: Next: %s, %t; want %s", what, told(got), ok, told(want))
	}
}

// wantNone: Next answers nothing.
func wantNone(t *testing.T, what string, c *conn.Conn) {
	t.Helper()
	if got, ok := c.Next(); ok || !same(got, api.Input{}) {
		t.Errorf("%s: Next: %s, %t; want nothing", what, told(got), ok)
	}
}

func wantOver(t *testing.T, what string, c *conn.Conn, want bool) {
	t.Helper()
	if got := c.Over(); got != want {
		t.Errorf("%s: Over: %t", what, got)
	}
}

// firstLate tells at which tick a conn is late first, and holds that it stays so; 0: at none of as many.
func firstLate(t *testing.T, what string, c *conn.Conn, many int) int {
	t.Helper()
	first := 0
	for i := 1; i <= many; i++ {
		late := c.Tick()
		if late && first == 0 {
			first = i
		}
		if late != (first > 0) {
			t.Errorf("%s: late at tick %d, not at %d", what, first, i)
			break
		}
	}
	return first
}

// fresh and joined make a conn that stands so.
func fresh() *conn.Conn { return conn.New(100, 0) }

func joined() *conn.Conn {
	c := fresh()
	c.Took(taken(connect(4, 0)))
	return c
}

// somePacket tells a right packet, of the kinds that a client sends as a rule.
func somePacket(r *rand.Rand) api.Packet {
	p := kinds()[someOf(r, 3, 3, 3, 4, 5, 6, 7, 8, 8, 10, 10, 12, 12, 1+r.Intn(14))]
	if p.ID > 0 {
		p.ID = 1 + r.Intn(65535)
	}
	if p.Kind == api.Publish {
		p.Msg.Payload = make([]byte, someOf(r, 0, 1, 9, r.Intn(150)))
		r.Read(p.Msg.Payload)
	}
	if p.Kind == api.Connect {
		p.Level, p.KeepAlive = someOf(r, 4, 4, 5, r.Intn(256)), someOf(r, 0, 1, 2, 9, 65535)
	}
	return p
}

// someBytes tells what a connection may bring: a Connect as a rule, and some packets, of which few are wrong; perhaps cut off.
func someBytes(t *testing.T, r *rand.Rand) string {
	all := ""
	if r.Intn(8) > 0 {
		all = hello(t, someOf(r, 4, 4, 4, 4, 4, 4, 4, 5), someOf(r, 0, 1, 2, 3, 4, 5, 10, 65535))
	}
	for range r.Intn(12) {
		switch r.Intn(30) {
		case 0:
			all += someOf(r, faults()...).b
		case 1:
			all += "\xC0\x80\x80\x00"
		default:
			all += encoded(t, somePacket(r))
		}
	}
	if r.Intn(4) == 0 {
		return all[:r.Intn(len(all)+1)]
	}
	return all
}

// someInput tells what Took may be told, right or not.
func someInput(r *rand.Rand) api.Input {
	in := api.Input{What: someOf(r, 1, 1, 1, 1, 1, 1, 1, 1, 1, 1, 1, 2, 3, 0, 4, -1), Packet: somePacket(r), Code: r.Intn(3), Err: api.Errno(r.Intn(3))}
	if r.Intn(4) == 0 {
		in.Packet.Kind = someOf(r, 0, 15, -1, 1<<40)
	}
	if r.Intn(4) == 0 {
		in.Packet = connect(someOf(r, 4, 5, -1), someOf(r, -1, 0, 1, 2, 3, 5, 65536))
	}
	return in
}
