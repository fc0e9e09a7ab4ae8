package window_test

import (
	"fmt"
	"math/rand"
	"slices"
	"strings"
	"testing"

	"crier/api"
	"crier/packet"
	"crier/window"
)

// The bounds, as numbers: the tests hold the document's, whatever the constants are.
const (
	maxWindow = 65535
	maxQueue  = 65536
	maxID     = 65535
)

// noQoS: qualities that Send refuses.
func noQoS() []int {
	return []int{0, -1, -2, 3, 4, 0x80, 257, 258, 1 << 32, 1<<32 + 1, -1 << 63, 1<<63 - 1}
}

// noID: numbers that are no packet number; some would be one, if only a part of them counted.
func noID() []int {
	return []int{0, -1, -2, -63, -64, -65, 65536, 65537, 65538, 1 << 32, 1<<32 + 1, 1<<32 + 2, -65535, -1 << 63, 1<<63 - 1}
}

// noKind: kinds that no acknowledgement of a message is of.
func noKind() []int {
	return []int{0, api.Connect, api.Connack, api.Publish, api.Pubrel, api.Subscribe, api.Suback, api.Unsubscribe, api.Unsuback, api.Pingreq, api.Pingresp, api.Disconnect, 15, 16, -4, -5, 4 + 16, 256 + 4, 1<<32 + 4, 1<<32 + 5, 1<<32 + 7, -1 << 63, 1<<63 - 1}
}

// note tells a message that can be told from all others of another name.
func note(name string, qos int) api.Message {
	return api.Message{Topic: name, Payload: []byte("<" + name + ">"), QoS: qos}
}

// publish, dup and pubrel: what is sent.
func publish(m api.Message, id int) api.Packet {
	return api.Packet{Kind: api.Publish, Msg: m, ID: id}
}

func dup(m api.Message, id int) api.Packet {
	return api.Packet{Kind: api.Publish, Dup: true, Msg: m, ID: id}
}

func pubrel(id int) api.Packet { return api.Packet{Kind: api.Pubrel, ID: id} }

// model: what P12.1 to P12.7 say of a window, in plain lists.
type model struct {
	window, queue int
	online        bool
	last          int
	flight        []api.Flight
	waits         []api.Message
	reserved      []int
}

func (m *model) place(id int) int {
	return slices.IndexFunc(m.flight, func(f api.Flight) bool { return f.ID == id })
}

func (m *model) number() int {
	for {
		m.last++
		if m.last > maxID {
			m.last = 1
		}
		if m.place(m.last) < 0 && !slices.Contains(m.reserved, m.last) {
			return m.last
		}
	}
}

func (m *model) launch(x api.Message) []api.Packet {
	m.flight = append(m.flight, api.Flight{ID: m.number(), Msg: x})
	return []api.Packet{publish(x, m.last)}
}

func (m *model) fill() []api.Packet {
	var sent []api.Packet
	for m.online && len(m.flight) < m.window && len(m.waits) > 0 {
		x := m.waits[0]
		m.waits = m.waits[1:]
		sent = append(sent, m.launch(x)...)
	}
	return sent
}

func (m *model) send(x api.Message) ([]api.Packet, bool, api.Errno) {
	switch {
	case x.QoS != 1 && x.QoS != 2:
		return nil, false, 122
	case m.online && len(m.flight) < m.window:
		return m.launch(x), true, 0
	case len(m.waits) < m.queue:
		m.waits = append(m.waits, x)
		return nil, true, 0
	}
	return nil, false, 0
}

func (m *model) ack(kind, id int) []api.Packet {
	at := m.place(id)
	if at < 0 || !m.online {
		return nil
	}
	f := m.flight[at]
	switch {
	case kind == api.Puback && !f.Released && f.Msg.QoS == 1, kind == api.Pubcomp && f.Released:
		m.flight = slices.Concat(m.flight[:at], m.flight[at+1:])
		return m.fill()
	case kind == api.Pubrec && (f.Released || f.Msg.QoS == 2):
		m.flight[at] = api.Flight{ID: id, Released: true}
		return []api.Packet{pubrel(id)}
	}
	return nil
}

func (m *model) up() []api.Packet {
	m.online = true
	var sent []api.Packet
	for _, f := range m.flight {
		if f.Released {
			sent = append(sent, pubrel(f.ID))
		} else {
			sent = append(sent, dup(f.Msg, f.ID))
		}
	}
	return append(sent, m.fill()...)
}

func (m *model) reserve() (int, bool) {
	if len(m.reserved) >= maxID-m.window {
		return 0, false
	}
	m.reserved = append(m.reserved, m.number())
	return m.last, true
}

func (m *model) free(id int) bool {
	at := slices.Index(m.reserved, id)
	if at >= 0 {
		m.reserved = slices.Concat(m.reserved[:at], m.reserved[at+1:])
	}
	return at >= 0
}

func (m *model) image() api.Window {
	return api.Window{Last: m.last, Flight: slices.Clone(m.flight), Queue: slices.Clone(m.waits)}
}

// twin: a window and its model, told the same.
type twin struct {
	t *testing.T
	w *window.Window
	m *model
	// when: what was done so far
	when []string
}

func bounded(window, queue int) (int, int) {
	return min(max(window, 1), maxWindow), min(max(queue, 0), maxQueue)
}

func newTwin(t *testing.T, most, queue int) *twin {
	m := &model{}
	m.window, m.queue = bounded(most, queue)
	x := &twin{t: t, w: window.New(most, queue), m: m}
	x.say("New(%d, %d)", most, queue)
	return x
}

func twinOf(t *testing.T, most, queue int, im api.Window) *twin {
	t.Helper()
	w, e := window.Of(most, queue, im)
	if e != api.OK || w == nil {
		t.Fatalf("P12.7: Of(%d, %d, %s): %d", most, queue, drawn(im), e)
	}
	m := &model{last: im.Last, flight: slices.Clone(im.Flight), waits: slices.Clone(im.Queue)}
	m.window, m.queue = bounded(most, queue)
	x := &twin{t: t, w: w, m: m}
	x.say("Of(%d, %d, %s)", most, queue, drawn(im))
	return x
}

func (x *twin) say(form string, args ...any) {
	if len(x.when) > 40 {
		x.when = append([]string{".."}, x.when[21:]...)
	}
	x.when = append(x.when, fmt.Sprintf(form, args...))
}

func (x *twin) fault(promise, form string, args ...any) {
	x.t.Helper()
	x.t.Fatalf("%s: %s: %s", promise, strings.Join(x.when, ", "), fmt.Sprintf(form, args...))
}

func (x *twin) packets(promise string, got, want []api.Packet) {
	x.t.Helper()
	if !sameSent(got, want) {
		x.fault(promise, "sent %s; want %s", told(got), told(want))
	}
}

func (x *twin) send(m api.Message) {
	x.t.Helper()
	x.say("Send(%s)", line(m))
	got, ok, e := x.w.Send(m)
	want, wok, we := x.m.send(m)
	x.packets("P12.3", got, want)
	if ok != wok || e != we {
		x.fault("P12.3", "%t, %d; want %t, %d", ok, e, wok, we)
	}
}

func (x *twin) ack(kind, id int) {
	x.t.Helper()
	x.say("Ack(%d, %d)", kind, id)
	x.packets("P12.4", x.w.Ack(kind, id), x.m.ack(kind, id))
}

func (x *twin) up() {
	x.t.Helper()
	x.say("Up")
	x.packets("P12.6", x.w.Up(), x.m.up())
}

func (x *twin) down() {
	x.say("Down")
	x.w.Down()
	x.m.online = false
}

func (x *twin) reserve() {
	x.t.Helper()
	x.say("Reserve")
	id, ok := x.w.Reserve()
	if want, wok := x.m.reserve(); id != want || ok != wok {
		x.fault("P12.5", "%d, %t; want %d, %t", id, ok, want, wok)
	}
}

func (x *twin) free(id int) {
	x.t.Helper()
	x.say("Free(%d)", id)
	if ok, want := x.w.Free(id), x.m.free(id); ok != want {
		x.fault("P12.5", "%t; want %t", ok, want)
	}
}

// hold holds what a window tells of itself against the model, and P12.8.
func (x *twin) hold() {
	x.t.Helper()
	if got := x.w.Online(); got != x.m.online {
		x.fault("P12.6", "Online %t", got)
	}
	if got := x.w.Flying(); got != len(x.m.flight) {
		x.fault("P12.6", "Flying %d; want %d", got, len(x.m.flight))
	}
	if got := x.w.Waiting(); got != len(x.m.waits) {
		x.fault("P12.6", "Waiting %d; want %d", got, len(x.m.waits))
	}
	im := x.w.Image()
	if want := x.m.image(); !sameImage(im, want) {
		x.fault("P12.7", "Image %s; want %s", drawn(im), drawn(want))
	}
	x.bounds(im)
}

func (x *twin) bounds(im api.Window) {
	x.t.Helper()
	numbers := slices.Clone(x.m.reserved)
	for _, f := range im.Flight {
		numbers = append(numbers, f.ID)
	}
	slices.Sort(numbers)
	if n := len(numbers); n > 0 && (numbers[0] < 1 || numbers[n-1] > maxID || len(slices.Compact(numbers)) != n) {
		x.fault("P12.8", "numbers under way and reserved: %v", numbers)
	}
	if len(im.Flight) > x.m.window || len(im.Queue) > x.m.queue {
		x.fault("P12.8", "%d under way, %d wait", len(im.Flight), len(im.Queue))
	}
	if x.w.Online() && len(im.Queue) > 0 && len(im.Flight) != x.m.window {
		x.fault("P12.8", "online, %d under way, %d wait", len(im.Flight), len(im.Queue))
	}
}

func sameSent(a, b []api.Packet) bool { return slices.EqualFunc(a, b, packet.Same) }

func sameMessage(a, b api.Message) bool {
	return packet.Same(api.Packet{Msg: a}, api.Packet{Msg: b})
}

func sameFlight(a, b api.Flight) bool {
	return a.ID == b.ID && a.Released == b.Released && sameMessage(a.Msg, b.Msg)
}

func sameImage(a, b api.Window) bool {
	return a.Last == b.Last && slices.EqualFunc(a.Flight, b.Flight, sameFlight) && slices.EqualFunc(a.Queue, b.Queue, sameMessage)
}

// line tells a message as a text.
func line(m api.Message) string {
	return fmt.Sprintf("%.20q %.20q %d %t", m.Topic, m.Payload, m.QoS, m.Retain)
}

// told tells packets as a text.
func told(l []api.Packet) string {
	var b strings.Builder
	for _, p := range l[:min(len(l), 50)] {
		fmt.Fprintf(&b, "[%s %d %t %s]", packet.Name(p.Kind), p.ID, p.Dup, line(p.Msg))
	}
	return fmt.Sprintf("%d: %s", len(l), &b)
}

// drawn tells an image as a text.
func drawn(m api.Window) string {
	var b strings.Builder
	fmt.Fprintf(&b, "%d;", m.Last)
	for _, f := range m.Flight[:min(len(m.Flight), 50)] {
		fmt.Fprintf(&b, " [%d %s %t]", f.ID, line(f.Msg), f.Released)
	}
	b.WriteString(";")
	for _, x := range m.Queue[:min(len(m.Queue), 50)] {
		fmt.Fprintf(&b, " [%s]", line(x))
	}
	return b.String()
}

// someOf picks one.
func someOf[T any](r *rand.Rand, l ...T) T { return l[r.Intn(len(l))] }

// someMessage tells a message of a name, the rest of it at random.
func someMessage(r *rand.Rand, name string) api.Message {
	payload := make([]byte, r.Intn(4))
	r.Read(payload)
	return api.Message{Topic: name, Payload: payload, QoS: 1 + r.Intn(2), Retain: r.Intn(2) == 0}
}

// someImage tells an image that a window of these bounds may have; numbers begin anew soon, often.
func someImage(r *rand.Rand, most, queue int) api.Window {
	base := someOf(r, 0, 1, 60, 65525, 65530, 65534, r.Intn(maxID))
	im := api.Window{Last: (base + r.Intn(20)) % (maxID + 1)}
	for i, k := range r.Perm(30)[:r.Intn(min(most, 30)+1)] {
		f := api.Flight{ID: (base+k)%maxID + 1, Released: r.Intn(3) == 0}
		if !f.Released {
			f.Msg = someMessage(r, fmt.Sprint("f", i))
		}
		im.Flight = append(im.Flight, f)
	}
	for i := range r.Intn(min(queue, 30) + 1) {
		im.Queue = append(im.Queue, someMessage(r, fmt.Sprint("q", i)))
	}
	return im
}
