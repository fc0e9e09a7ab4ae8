package session_test

import (
	"fmt"
	"math/rand"
	"slices"
	"testing"

	"crier/api"
	"crier/session"
	"crier/window"
)

// step: one call and its arguments.
type step struct {
	call, kind, id int
	ask            api.Ask
	msg            api.Message
}

// someStep tells a step that often fits what a model holds.
func someStep(r *rand.Rand, m *model, name string) step {
	w := m.out.Image()
	s := step{
		call: r.Intn(12),
		kind: someOf(r, api.Puback, api.Puback, api.Pubrec, api.Pubrec, api.Pubcomp, api.Pubcomp, r.Intn(16)),
		id:   someOf(r, 1, 2, 65535, w.Last, r.Intn(12), someOf(r, noID()...)),
		ask:  api.Ask{Filter: someOf(r, short()...), QoS: r.Intn(3)},
		msg:  someMessage(r, name),
	}
	if len(w.Flight) > 0 && r.Intn(6) > 0 {
		s.id = w.Flight[r.Intn(len(w.Flight))].ID
	}
	switch r.Intn(30) {
	case 0:
		s.ask.Filter = someOf(r, noFilters()...)
	case 1:
		s.ask.QoS = someOf(r, noQoS()...)
	case 2:
		s.msg.QoS = someOf(r, noQoS()...)
	}
	return s
}

// do does a step with both, and holds the answers.
func (x *twin) do(s step) {
	x.t.Helper()
	switch s.call {
	case 0, 1:
		x.subscribe(s.ask.Filter, s.ask.QoS)
	case 2:
		x.unsubscribe(s.ask.Filter)
	case 3, 4, 5:
		x.deliver(s.msg)
	case 6, 7:
		x.ack(s.kind, s.id)
	case 8:
		x.note(s.id)
	case 9:
		x.release(s.id)
	case 10:
		x.up()
	default:
		x.down()
	}
	x.hold()
}

// bounds holds P13.9's numbers.
func (x *twin) bounds(c api.Config) {
	x.t.Helper()
	im := x.s.Image()
	if len(im.Subs) > max(c.Subs, 0) || len(im.Window.Flight) > max(c.Window, 1) || len(im.Window.Queue) > max(c.Queue, 0) {
		x.fault("P13.9", "%d filters, %d under way, %d wait", len(im.Subs), len(im.Window.Flight), len(im.Window.Queue))
	}
}

func TestLongLives(t *testing.T) {
	r := rand.New(rand.NewSource(13))
	for range 300 {
		c := someConfig(r)
		x := newTwin(t, someOf(r, "", "k", "\x001"), r.Intn(2) == 0, c)
		for j := range 150 {
			x.do(someStep(r, x.m, fmt.Sprint(j)))
			x.bounds(c)
		}
	}
}

// TestAllShortLives: all lives of four steps in a narrow session, from each of some beginnings.
func TestAllShortLives(t *testing.T) {
	steps := []step{
		{call: 0, ask: api.Ask{Filter: "a", QoS: 1}},
		{call: 0, ask: api.Ask{Filter: "b", QoS: 2}},
		{call: 2, ask: api.Ask{Filter: "a"}},
		{call: 3, msg: note("zero", 0)},
		{call: 3, msg: note("one", 1)},
		{call: 3, msg: note("two", 2)},
		{call: 6, kind: api.Puback, id: 1},
		{call: 6, kind: api.Pubrec, id: 1},
		{call: 6, kind: api.Pubcomp, id: 1},
		{call: 8, id: 1},
		{call: 9, id: 1},
		{call: 10},
		{call: 11},
	}
	c := api.Config{Window: 1, Queue: 1, Subs: 1}
	for _, im := range []api.Session{
		{Client: "k"},
		{Client: "k", Subs: []api.Ask{{Filter: "b"}}, Window: api.Window{Last: 1, Flight: []api.Flight{{ID: 1, Msg: note("f", 2)}}}, Inbox: []int{1, 2}},
	} {
		for life := range len(steps) * len(steps) * len(steps) * len(steps) {
			x := twinFrom(t, im, c)
			for rest, i := life, 0; i < 4; i++ {
				x.do(steps[rest%len(steps)])
				rest /= len(steps)
			}
		}
	}
}

// follow does a step with a session, and tells the answer as a text.
func follow(s *session.Session, d step) string {
	switch d.call {
	case 0, 1:
		return fmt.Sprint(s.Subscribe(d.ask))
	case 2:
		return fmt.Sprint(s.Unsubscribe(d.ask.Filter))
	case 3, 4, 5:
		l, ok := s.Deliver(d.msg)
		return told(l) + fmt.Sprint(ok)
	case 6, 7:
		return told(s.Ack(d.kind, d.id))
	case 8:
		return fmt.Sprint(s.Note(d.id))
	case 9:
		return fmt.Sprint(s.Release(d.id))
	case 10:
		return told(s.Up())
	}
	s.Down()
	return ""
}

// stands tells what a session tells of itself.
func stands(s *session.Session) string {
	return fmt.Sprint(s.Key(), s.Lasting(), s.Online(), asks(s.Subs()), drawn(s.Image()))
}

// TestSecondLives: at any moment a session made from the image goes on as the first one does behind a Down (P13.8).
func TestSecondLives(t *testing.T) {
	r := rand.New(rand.NewSource(138))
	for i := range 300 {
		c := someConfig(r)
		x := newTwin(t, fmt.Sprint("k", i), true, c)
		for j := range r.Intn(120) {
			x.do(someStep(r, x.m, fmt.Sprint(j)))
		}
		second, e := session.From(x.s.Image(), c)
		if e != api.OK {
			x.fault("P13.8", "From(%s): %d", drawn(x.s.Image()), e)
		}
		third, _ := session.From(second.Image(), c)
		x.down()
		for j := range 120 {
			d := someStep(r, x.m, fmt.Sprint("x", j))
			want := follow(x.s, d)
			if a, b := follow(second, d), follow(third, d); a != want || b != want {
				x.fault("P13.8", "then step %d (%v): %s, of the image's %s and %s", j, d, want, a, b)
			}
			if a, b := stands(second), stands(third); a != stands(x.s) || b != stands(x.s) {
				x.fault("P13.8", "then step %d (%v): stands %s, of the image's %s and %s", j, d, stands(x.s), a, b)
			}
			keep(x.m, x.s)
		}
	}
}

// keep makes a model what a session tells, so that steps go on fitting it.
func keep(m *model, s *session.Session) {
	m.out, _ = window.Of(maxWindow, maxQueue, s.Image().Window)
}

// owed: what Deliver took at quality 1 or 2 and no acknowledgement took away, by topic, in the order in which it was taken.
type owed struct {
	names []string
	under map[int]string // what was sent, by number
}

func (o *owed) sent(l []api.Packet) {
	for _, p := range l {
		if p.Kind == api.Publish && p.Msg.QoS > 0 {
			o.under[p.ID] = p.Msg.Topic
		}
	}
}

// ack acknowledges a number; what fits takes it away, but a Pubrec.
func (o *owed) ack(s *session.Session, kind, id int) {
	at := slices.IndexFunc(s.Image().Window.Flight, func(f api.Flight) bool {
		return f.ID == id && (kind == api.Puback && f.Msg.QoS == 1 || kind == api.Pubcomp && f.Released)
	})
	if at >= 0 && s.Online() {
		o.names = slices.DeleteFunc(o.names, func(name string) bool { return name == o.under[id] })
		delete(o.under, id)
	}
	o.sent(s.Ack(kind, id))
}

// left tells what a session sends by Up, and has waiting then; a released one by its number's name.
func (o *owed) left(s *session.Session) (out []string) {
	for _, p := range s.Up() {
		if p.Kind == api.Pubrel {
			out = append(out, o.under[p.ID])
			continue
		}
		o.sent([]api.Packet{p})
		out = append(out, p.Msg.Topic)
	}
	for _, m := range s.Image().Window.Queue {
		out = append(out, m.Topic)
	}
	return out
}

// TestNothingIsLost: behind Down and Up all that was taken, and not acknowledged away, is sent, or waits still (P13.9).
func TestNothingIsLost(t *testing.T) {
	r := rand.New(rand.NewSource(139))
	for i := range 500 {
		s := session.New("k", i%2 == 0, api.Config{Window: 1 + r.Intn(5), Queue: r.Intn(6)})
		o := &owed{under: map[int]string{}}
		s.Up()
		for j := range 100 {
			id := 1 + r.Intn(j/3+1)
			switch n := r.Intn(10); {
			case n < 4:
				name := fmt.Sprint(j)
				m := note(name, r.Intn(3))
				l, ok := s.Deliver(m)
				if ok && m.QoS > 0 {
					o.names = append(o.names, name)
				}
				o.sent(l)
			case n < 8:
				o.ack(s, someOf(r, api.Puback, api.Pubrec, api.Pubcomp), id)
			case n == 8:
				s.Down()
			case n == 9:
				s.Down()
				if left := o.left(s); !slices.Equal(left, o.names) {
					t.Fatalf("P13.9: life %d, step %d: Up tells %v of %v", i, j, left, o.names)
				}
			}
		}
	}
}

// TestTwoSessions: sessions of one key and setup, and of one image, don't touch one another.
func TestTwoSessions(t *testing.T) {
	r := rand.New(rand.NewSource(132))
	for range 60 {
		all := []*twin{newTwin(t, "k", true, roomyConfig), newTwin(t, "k", true, roomyConfig), twinFrom(t, full(), roomyConfig), twinFrom(t, full(), roomyConfig)}
		for j := range 150 {
			x := all[r.Intn(4)]
			x.do(someStep(r, x.m, fmt.Sprint(j)))
			all[r.Intn(4)].hold()
		}
	}
}
