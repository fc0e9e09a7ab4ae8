package session_test

import (
	"bytes"
	"fmt"
	"runtime"
	"slices"
	"strings"
	"testing"

	"crier/api"
	"crier/session"
)

// roomy tells a message whose payload has spare room behind it.
func roomy(name string, qos int) api.Message {
	m := note(name, qos)
	m.Payload = append(make([]byte, 0, 40), m.Payload...)
	return m
}

// overwrite writes over bytes, and over their spare room.
func overwrite(b []byte) {
	b = b[:cap(b)]
	for i := range b {
		b[i] = '!'
	}
}

// fill writes over a list, and over its spare room.
func fill[T any](l []T, with T) {
	l = l[:cap(l)]
	for i := range l {
		l[i] = with
	}
}

func spoil(l []api.Packet) {
	for _, p := range l {
		overwrite(p.Msg.Payload)
	}
	fill(l, api.Packet{Kind: -1, ID: -1, Dup: true, Msg: api.Message{Topic: "spoilt", QoS: 9}})
}

func spoilImage(im api.Session) {
	for _, f := range im.Window.Flight {
		overwrite(f.Msg.Payload)
	}
	for _, m := range im.Window.Queue {
		overwrite(m.Payload)
	}
	fill(im.Subs, api.Ask{Filter: "spoilt", QoS: 9})
	fill(im.Window.Flight, api.Flight{ID: -1, Msg: api.Message{Topic: "spoilt"}, Released: true})
	fill(im.Window.Queue, api.Message{Topic: "spoilt"})
	fill(im.Inbox, -1)
}

// answers: what is done with each answer of a life.
type answers struct {
	sent  func([]api.Packet)
	subs  func([]api.Ask)
	image func(api.Session)
}

// live does all calls that answer lists, against the model, and hands on what they answer.
func (a answers) live(t *testing.T) {
	c := api.Config{Window: 2, Queue: 2, Subs: 3}
	x := newTwin(t, "k", true, c)
	both := func(got, want []api.Packet) {
		t.Helper()
		x.packets("DOC 3", got, want)
		a.sent(got)
		a.subs(x.s.Subs())
		a.image(x.s.Image())
		x.hold()
	}
	deliver := func(name string, qos int) {
		t.Helper()
		got, _ := x.s.Deliver(roomy(name, qos))
		want, _ := x.m.deliver(note(name, qos))
		both(got, want)
	}
	ack := func(kind, id int) { both(x.s.Ack(kind, id), x.m.out.Ack(kind, id)) }
	up := func() { both(x.s.Up(), x.m.out.Up()) }
	for i, filter := range []string{"b", "a", "c", "d"} {
		x.subscribe(filter, i%3)
		x.note(10 - i)
		deliver(fmt.Sprint("off", i), i%3)
	}
	up()
	for i := range 9 {
		deliver(fmt.Sprint("on", i), i%3)
	}
	up()
	x.unsubscribe("a")
	x.release(9)
	for id := 1; id < 4; id++ {
		ack(api.Puback, id)
		ack(api.Pubrec, id)
		up()
		ack(api.Pubrec, id)
		ack(api.Pubcomp, id)
		deliver(fmt.Sprint("z", id), 0)
	}
	x.down()
	up()
}

// What is done with an answer shows in no later one.
func TestAnswersWrittenOver(t *testing.T) {
	answers{
		sent:  spoil,
		subs:  func(l []api.Ask) { fill(l, api.Ask{Filter: "spoilt", QoS: 9}) },
		image: spoilImage,
	}.live(t)
}

// What is done with an answer shows in no earlier one, and neither does what the session does later.
func TestEarlierAnswersStay(t *testing.T) {
	var is, was []func() string
	var spoils []func()
	keep := func(tell func() string, spoil func()) {
		text := tell()
		is, was, spoils = append(is, tell), append(was, func() string { return text }), append(spoils, spoil)
	}
	answers{
		sent:  func(l []api.Packet) { keep(func() string { return told(l) }, func() { spoil(l) }) },
		subs:  func(l []api.Ask) { keep(func() string { return asks(l) }, func() { fill(l, api.Ask{}) }) },
		image: func(im api.Session) { keep(func() string { return drawn(im) }, func() { spoilImage(im) }) },
	}.live(t)
	for i := range is {
		for j := i; j < len(is); j++ {
			if got, want := is[j](), was[j](); got != want {
				t.Fatalf("DOC 3: answer %d was %s, is %s", j, want, got)
			}
		}
		spoils[i]()
	}
}

// Deliver neither changes nor keeps what it is handed, nor the spare room behind it, and shares nothing with its answer.
func TestWhatIsHandedIn(t *testing.T) {
	for qos := range 3 {
		for _, online := range []bool{true, false} {
			s := session.New("k", true, api.Config{Window: 1, Queue: 1})
			if online {
				s.Up()
			}
			for range 3 {
				m := roomy("m", qos)
				whole := bytes.Clone(m.Payload[:cap(m.Payload)])
				l, _ := s.Deliver(m)
				spoil(l)
				if !bytes.Equal(m.Payload[:cap(m.Payload)], whole) {
					t.Errorf("DOC 3: Deliver at %d changes what it is handed, or answers it: %q", qos, m.Payload[:cap(m.Payload)])
				}
				l, _ = s.Deliver(m)
				overwrite(m.Payload)
				for _, p := range append(l, s.Up()...) {
					if string(p.Msg.Payload) != "<m>" {
						t.Errorf("DOC 3: Deliver at %d keeps or answers what it is handed: %q", qos, p.Msg.Payload)
					}
				}
				if !online {
					s.Down()
				}
			}
		}
	}
	empty := api.Message{Topic: "m", Payload: make([]byte, 0, 9)}
	s := session.New("k", true, api.Config{})
	s.Up()
	l, _ := s.Deliver(empty)
	spoil(l)
	if !bytes.Equal(empty.Payload[:9], make([]byte, 9)) {
		t.Error("DOC 3: Deliver answers the spare room that it is handed")
	}
}

// From neither changes nor keeps the image that it is handed.
func TestImageThatIsHandedIn(t *testing.T) {
	im := full()
	im.Subs = slices.Grow(im.Subs, 5)
	im.Window.Flight = slices.Grow(im.Window.Flight, 5)
	im.Window.Queue = slices.Grow(im.Window.Queue, 5)
	im.Inbox = slices.Grow(im.Inbox, 5)
	im.Window.Flight[0].Msg, im.Window.Queue[1] = roomy("f", 1), roomy("r", 1)
	whole := func() string {
		return drawn(api.Session{
			Subs:   im.Subs[:cap(im.Subs)],
			Window: api.Window{Flight: im.Window.Flight[:cap(im.Window.Flight)], Queue: im.Window.Queue[:cap(im.Window.Queue)]},
			Inbox:  im.Inbox[:cap(im.Inbox)],
		}) + fmt.Sprintf("%q %q", im.Window.Flight[0].Msg.Payload[:40], im.Window.Queue[1].Payload[:40])
	}
	before := whole()
	s, _ := session.From(im, roomyConfig)
	spoil(s.Up())
	spoilImage(s.Image())
	s.Subscribe(api.Ask{Filter: "z", QoS: 1})
	s.Subscribe(api.Ask{Filter: "a/b", QoS: 0})
	s.Unsubscribe("+/a")
	s.Note(9)
	s.Release(1)
	s.Ack(api.Pubrec, 65535)
	s.Ack(api.Puback, 7)
	s.Deliver(note("s", 1))
	if got := whole(); got != before {
		t.Errorf("DOC 3: From changes what it is handed: %s, was %s", got, before)
	}
	s, _ = session.From(im, roomyConfig)
	spoilImage(im)
	if got := s.Image(); !sameImage(got, full()) {
		t.Errorf("DOC 3: From keeps what it is handed: %s", drawn(got))
	}
}

// rough: by how many bytes what held tells may be wrong: some garbage of others is gone only at a later reading.
const rough = 1 << 20

// held tells how many bytes the program has, garbage aside.
func held() int {
	var s runtime.MemStats
	runtime.GC()
	runtime.GC()
	runtime.ReadMemStats(&s)
	return int(s.HeapAlloc)
}

// small holds that a session keeps nothing to speak of.
func small(t *testing.T, why string, before int, s *session.Session) {
	t.Helper()
	if n := held() - before; n > rough {
		t.Errorf("LANGUAGE 8: %s: %d bytes are kept", why, n)
	}
	runtime.KeepAlive(s)
}

// A session that had much keeps no room for it when it is gone.
func TestRoomIsGivenBack(t *testing.T) {
	before := held()
	s := session.New("k", true, api.Config{Subs: maxSubs})
	filter := func(i int) string { return fmt.Sprintf("%030d", i) }
	for i := range maxSubs {
		s.Subscribe(api.Ask{Filter: filter(i)})
	}
	if n := held() - before; n < 2*rough {
		t.Fatalf("P13.3: %d bytes are kept of %d filters", n, len(s.Subs()))
	}
	for i := range maxSubs {
		s.Unsubscribe(filter(i))
	}
	small(t, "filters that are gone", before, s)

	many := make([]*session.Session, 20)
	for i := range many {
		many[i] = session.New("k", true, api.Config{})
		for id := 1; id <= maxID; id++ {
			many[i].Note(id)
		}
		for id := 1; id <= maxID; id++ {
			many[i].Release(id)
		}
	}
	small(t, "numbers that are gone", before, many[0])
	runtime.KeepAlive(many)
}

// A key, a filter or a topic that is a piece of a great text doesn't keep that text; nor is a setup kept.
func TestPieceOfAText(t *testing.T) {
	before := held()
	great := func(i int) string { return strings.Repeat("x", 4<<20)[i : i+3+i] }
	s := session.New(great(1), true, api.Config{Subs: 99, Queue: 99, Users: make([]api.User, 1<<18)})
	small(t, "a piece of a text, and a setup", before, s)
	for i := range 20 {
		s.Subscribe(api.Ask{Filter: great(i)})
		s.Subscribe(api.Ask{Filter: great(i), QoS: 1})
		s.Deliver(api.Message{Topic: great(i), QoS: 1})
	}
	if len(s.Subs()) != 20 {
		t.Fatalf("P13.3: Subs: %s", asks(s.Subs()))
	}
	small(t, "pieces of texts", before, s)
	o, _ := session.From(api.Session{Client: great(0)}, api.Config{})
	small(t, "a piece of a text as a client", before, o)
	var im api.Session
	for i := range 20 {
		im.Subs = append(im.Subs, api.Ask{Filter: great(i)})
	}
	o, e := session.From(im, api.Config{Subs: 99})
	if e != api.OK || len(o.Subs()) != 20 {
		t.Fatalf("P13.2: From: %d", e)
	}
	small(t, "pieces of an image's texts", before, o)
}

// Years of small traffic leave nothing behind.
func TestNothingGathers(t *testing.T) {
	before := held()
	s := session.New("k", true, api.Config{Window: 2, Queue: 2, Subs: 3})
	s.Subscribe(api.Ask{Filter: "stays"})
	s.Note(65535)
	s.Up()
	for i := range 300000 {
		filter, id := fmt.Sprint(i), i%65534+1
		if s.Subscribe(api.Ask{Filter: filter, QoS: 1}) != 1 || !s.Note(id) || !s.Unsubscribe(filter) || !s.Release(id) {
			t.Fatalf("P13.3, P13.6: round %d", i)
		}
		l, _ := s.Deliver(note("m", i%2))
		for _, p := range l {
			s.Ack(api.Puback, p.ID)
		}
	}
	if im := s.Image(); len(im.Subs) != 1 || len(im.Inbox) != 1 || len(im.Window.Flight) != 0 {
		t.Fatalf("P13.7: Image: %s", drawn(im))
	}
	small(t, "traffic", before, s)
}
