package session_test

import (
	"fmt"
	"math"
	"math/rand"
	"slices"
	"strings"
	"testing"

	"crier/api"
	"crier/packet"
	"crier/session"
	"crier/topic"
	"crier/window"
)

// The bounds, as numbers: the tests hold the document's, whatever the constants are.
const (
	maxWindow = 65535
	maxQueue  = 65536
	maxSubs   = 65536
	maxID     = 65535
	failed    = 0x80
)

// noQoS: numbers that are no quality; some would be one, if only a part of them counted.
func noQoS() []int {
	return []int{-1, -2, 3, 4, 0x80, 256, 257, 258, 1 << 32, 1<<32 + 1, 1<<32 + 2, math.MinInt, math.MaxInt}
}

// noID: numbers that are no packet number.
func noID() []int {
	return []int{0, -1, -2, -65535, 65536, 65537, 65538, 1 << 32, 1<<32 + 1, 1<<32 + 2, math.MinInt, math.MaxInt}
}

// noFilters: texts that are no filter.
func noFilters() []string {
	return []string{"", "a+", "+a", "#/a", "a/#/", "++", "##", "a#", "a/b#/c", "\x00", "a\x00", "\xFF", "\xC0\x80", "\xED\xA0\x80", "a/\xF4\x90\x80\x80", strings.Repeat("a", 65536)}
}

// short: filters in topic's order.
func short() []string {
	return []string{"/", "/a", "#", "$a", "$a/#", "+", "+/", "+/a", "a", "a/", "a/#", "a/+", "a/b", "a/b/c", "a.b", "b", "b/\u00E9"}
}

// inOrder: filters in topic's order, the longest that may be at last.
func inOrder() []string { return append(short(), strings.Repeat("z", 65535)) }

// extremes: numbers at and beyond a bound, and what they count as.
func extremes(least, most int) map[int]int {
	return map[int]int{math.MinInt: least, -1 << 32: least, -1: least, least: least, 1: max(least, 1), 2: 2, most - 1: most - 1, most: most, most + 1: most, 1<<32 + 1: most, math.MaxInt: most}
}

// note tells a message that can be told from all others of another name.
func note(name string, qos int) api.Message {
	return api.Message{Topic: name, Payload: []byte("<" + name + ">"), QoS: qos}
}

// publish, dup, pubrel and plain: what is sent.
func publish(m api.Message, id int) api.Packet {
	return api.Packet{Kind: api.Publish, Msg: m, ID: id}
}

func dup(m api.Message, id int) api.Packet {
	return api.Packet{Kind: api.Publish, Dup: true, Msg: m, ID: id}
}

func pubrel(id int) api.Packet { return api.Packet{Kind: api.Pubrel, ID: id} }

func plain(m api.Message) api.Packet { return api.Packet{Kind: api.Publish, Msg: m} }

// model: what P13.1 to P13.7 say of a session, by plain lists and a window of its own.
type model struct {
	key     string
	lasting bool
	most    int
	asks    []api.Ask // as they came
	noted   []int     // as they came
	out     *window.Window
}

func newModel(key string, lasting bool, c api.Config) *model {
	return &model{key: key, lasting: lasting, most: min(max(c.Subs, 0), maxSubs), out: window.New(c.Window, c.Queue)}
}

func (m *model) place(filter string) int {
	return slices.IndexFunc(m.asks, func(a api.Ask) bool { return a.Filter == filter })
}

func (m *model) subscribe(a api.Ask) int {
	at := m.place(a.Filter)
	switch {
	case topic.CheckFilter(a.Filter) != api.OK || !slices.Contains([]int{0, 1, 2}, a.QoS):
		return failed
	case at >= 0:
		m.asks[at].QoS = a.QoS
	case len(m.asks) >= m.most:
		return failed
	default:
		m.asks = append(m.asks, a)
	}
	return a.QoS
}

func (m *model) unsubscribe(filter string) bool {
	at := m.place(filter)
	if at >= 0 {
		m.asks = slices.Concat(m.asks[:at], m.asks[at+1:])
	}
	return at >= 0
}

func (m *model) subs() []api.Ask {
	var names []string
	for _, a := range m.asks {
		names = append(names, a.Filter)
	}
	var l []api.Ask
	for _, s := range topic.Sorted(names) {
		l = append(l, m.asks[m.place(s)])
	}
	return l
}

func (m *model) deliver(x api.Message) ([]api.Packet, bool) {
	switch {
	case x.QoS == 1 || x.QoS == 2:
		l, ok, _ := m.out.Send(x)
		return l, ok
	case x.QoS == 0 && m.out.Online():
		return []api.Packet{plain(x)}, true
	}
	return nil, false
}

func (m *model) note(id int) bool {
	if id < 1 || id > maxID || slices.Contains(m.noted, id) {
		return false
	}
	m.noted = append(m.noted, id)
	return true
}

func (m *model) release(id int) bool {
	at := slices.Index(m.noted, id)
	if at >= 0 {
		m.noted = slices.Concat(m.noted[:at], m.noted[at+1:])
	}
	return at >= 0
}

func (m *model) image() api.Session {
	return api.Session{Client: m.key, Subs: m.subs(), Window: m.out.Image(), Inbox: slices.Sorted(slices.Values(m.noted))}
}

// twin: a session and its model, told the same.
type twin struct {
	t *testing.T
	s *session.Session
	m *model
	// when: what was done so far
	when []string
}

func newTwin(t *testing.T, key string, lasting bool, c api.Config) *twin {
	x := &twin{t: t, s: session.New(key, lasting, c), m: newModel(key, lasting, c)}
	x.say("New(%q, %t, %s)", key, lasting, setup(c))
	return x
}

func twinFrom(t *testing.T, im api.Session, c api.Config) *twin {
	t.Helper()
	s, e := session.From(im, c)
	if e != api.OK || s == nil {
		t.Fatalf("P13.2: From(%s, %s): %d", drawn(im), setup(c), e)
	}
	m := newModel(im.Client, true, c)
	m.asks, m.noted = slices.Clone(im.Subs), slices.Clone(im.Inbox)
	m.out, _ = window.Of(c.Window, c.Queue, im.Window)
	x := &twin{t: t, s: s, m: m}
	x.say("From(%s, %s)", drawn(im), setup(c))
	return x
}

func (x *twin) say(form string, args ...any) {
	if len(x.when) > 40 {
		x.when = append([]string{".."}, x.when[21:]...)
	}
	x.when = append(x.when, fmt.Sprintf(form, args...))
}

func (x *twin) fault(promise, form string, args ...any) {
	x.t.Helper()
	x.t.Fatalf("%s: %s: %s", promise, strings.Join(x.when, ", "), fmt.Sprintf(form, args...))
}

func (x *twin) packets(promise string, got, want []api.Packet) {
	x.t.Helper()
	if !sameSent(got, want) {
		x.fault(promise, "sent %s; want %s", told(got), told(want))
	}
}

func (x *twin) subscribe(filter string, qos int) {
	x.t.Helper()
	x.say("Subscribe(%.20q at %d)", filter, qos)
	a := api.Ask{Filter: filter, QoS: qos}
	if got, want := x.s.Subscribe(a), x.m.subscribe(a); got != want {
		x.fault("P13.3", "%d; want %d", got, want)
	}
}

func (x *twin) unsubscribe(filter string) {
	x.t.Helper()
	x.say("Unsubscribe(%.20q)", filter)
	if got, want := x.s.Unsubscribe(filter), x.m.unsubscribe(filter); got != want {
		x.fault("P13.3", "%t; want %t", got, want)
	}
}

func (x *twin) up() {
	x.t.Helper()
	x.say("Up")
	x.packets("P13.4", x.s.Up(), x.m.out.Up())
}

func (x *twin) down() {
	x.say("Down")
	x.s.Down()
	x.m.out.Down()
}

func (x *twin) ack(kind, id int) {
	x.t.Helper()
	x.say("Ack(%d, %d)", kind, id)
	x.packets("P13.4", x.s.Ack(kind, id), x.m.out.Ack(kind, id))
}

func (x *twin) deliver(m api.Message) {
	x.t.Helper()
	x.say("Deliver(%s)", line(m))
	got, ok := x.s.Deliver(m)
	want, wok := x.m.deliver(m)
	x.packets("P13.5", got, want)
	if ok != wok {
		x.fault("P13.5", "%t; want %t", ok, wok)
	}
}

func (x *twin) note(id int) {
	x.t.Helper()
	x.say("Note(%d)", id)
	if got, want := x.s.Note(id), x.m.note(id); got != want {
		x.fault("P13.6", "%t; want %t", got, want)
	}
}

func (x *twin) release(id int) {
	x.t.Helper()
	x.say("Release(%d)", id)
	if got, want := x.s.Release(id), x.m.release(id); got != want {
		x.fault("P13.6", "%t; want %t", got, want)
	}
}

// hold holds what a session tells of itself against the model.
func (x *twin) hold() {
	x.t.Helper()
	if key, lasting := x.s.Key(), x.s.Lasting(); key != x.m.key || lasting != x.m.lasting {
		x.fault("P13.1", "Key %q, Lasting %t", key, lasting)
	}
	if got := x.s.Online(); got != x.m.out.Online() {
		x.fault("P13.4", "Online %t", got)
	}
	if got, want := x.s.Subs(), x.m.subs(); !slices.Equal(got, want) {
		x.fault("P13.3", "Subs %s; want %s", asks(got), asks(want))
	}
	if got, want := x.s.Image(), x.m.image(); !sameImage(got, want) {
		x.fault("P13.7", "Image %s; want %s", drawn(got), drawn(want))
	}
}

func sameSent(a, b []api.Packet) bool { return slices.EqualFunc(a, b, packet.Same) }

func sameMessage(a, b api.Message) bool { return packet.Same(plain(a), plain(b)) }

func sameFlight(a, b api.Flight) bool {
	return a.ID == b.ID && a.Released == b.Released && sameMessage(a.Msg, b.Msg)
}

func sameWindow(a, b api.Window) bool {
	return a.Last == b.Last && slices.EqualFunc(a.Flight, b.Flight, sameFlight) && slices.EqualFunc(a.Queue, b.Queue, sameMessage)
}

func sameImage(a, b api.Session) bool {
	return a.Client == b.Client && slices.Equal(a.Subs, b.Subs) && sameWindow(a.Window, b.Window) && slices.Equal(a.Inbox, b.Inbox)
}

// setup tells what counts of a setup as a text.
func setup(c api.Config) string { return fmt.Sprintf("{%d %d %d}", c.Window, c.Queue, c.Subs) }

// line tells a message as a text.
func line(m api.Message) string {
	return fmt.Sprintf("%.20q %.20q %d %t", m.Topic, m.Payload, m.QoS, m.Retain)
}

// told tells packets as a text.
func told(l []api.Packet) string {
	var b strings.Builder
	for _, p := range l[:min(len(l), 50)] {
		fmt.Fprintf(&b, "[%s %d %t %s]", packet.Name(p.Kind), p.ID, p.Dup, line(p.Msg))
	}
	return fmt.Sprintf("%d: %s", len(l), &b)
}

// asks tells filters as a text.
func asks(l []api.Ask) string {
	var b strings.Builder
	for _, a := range l[:min(len(l), 50)] {
		fmt.Fprintf(&b, "[%.20q %d]", a.Filter, a.QoS)
	}
	return fmt.Sprintf("%d: %s", len(l), &b)
}

// drawn tells an image as a text.
func drawn(s api.Session) string {
	var b strings.Builder
	fmt.Fprintf(&b, "%q; %s; %d;", s.Client, asks(s.Subs), s.Window.Last)
	for _, f := range s.Window.Flight[:min(len(s.Window.Flight), 50)] {
		fmt.Fprintf(&b, " [%d %s %t]", f.ID, line(f.Msg), f.Released)
	}
	b.WriteString(";")
	for _, x := range s.Window.Queue[:min(len(s.Window.Queue), 50)] {
		fmt.Fprintf(&b, " [%s]", line(x))
	}
	fmt.Fprintf(&b, "; %v", s.Inbox[:min(len(s.Inbox), 50)])
	return b.String()
}

// someOf picks one.
func someOf[T any](r *rand.Rand, l ...T) T { return l[r.Intn(len(l))] }

// someMessage tells a message of a name, the rest of it at random.
func someMessage(r *rand.Rand, name string) api.Message {
	payload := make([]byte, r.Intn(4))
	r.Read(payload)
	return api.Message{Topic: name, Payload: payload, QoS: r.Intn(3), Retain: r.Intn(2) == 0}
}

// someConfig tells a setup whose sessions are soon full, the numbers that don't count at random.
func someConfig(r *rand.Rand) api.Config {
	return api.Config{
		List: r.Intn(2) == 0, Cache: r.Intn(9), Retained: r.Intn(9), Sessions: r.Intn(9), Most: r.Intn(9), Patience: r.Intn(9),
		Window: someOf(r, -5, 0, 1, 1, 2, 3, 7, 20), Queue: someOf(r, -5, 0, 1, 2, 5, 30), Subs: someOf(r, -5, 0, 1, 2, 3, 5, 10),
	}
}
