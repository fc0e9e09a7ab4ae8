package session_test

import (
	"fmt"
	"math"
	"math/rand"
	"slices"
	"strings"
	"testing"

	"crier/api"
	"crier/session"
	"crier/topic"
)

// TestExampleOfAll: the chapter's first example, all packets whole.
func TestExampleOfAll(t *testing.T) {
	s := session.New("k", true, api.Config{Window: 1, Queue: 1, Subs: 1})
	for i, c := range []struct {
		filter    string
		qos, code int
	}{{"a", 1, 1}, {"b", 0, 128}, {"a", 2, 2}} {
		if code := s.Subscribe(api.Ask{Filter: c.filter, QoS: c.qos}); code != c.code {
			t.Errorf("P13.3: Subscribe %d: %d", i, code)
		}
	}
	if l := s.Subs(); !slices.Equal(l, []api.Ask{{Filter: "a", QoS: 2}}) {
		t.Errorf("P13.3: Subs: %s", asks(l))
	}
	steps := []struct {
		does func() ([]api.Packet, bool)
		sent []api.Packet
		ok   bool
	}{
		{func() ([]api.Packet, bool) { return s.Deliver(note("zero", 0)) }, nil, false},
		{func() ([]api.Packet, bool) { return s.Deliver(note("one", 1)) }, nil, true},
		{func() ([]api.Packet, bool) { return s.Up(), true }, []api.Packet{publish(note("one", 1), 1)}, true},
		{func() ([]api.Packet, bool) { return s.Deliver(note("zero", 0)) }, []api.Packet{plain(note("zero", 0))}, true},
		{func() ([]api.Packet, bool) { return s.Deliver(note("two", 2)) }, nil, true},
		{func() ([]api.Packet, bool) { return s.Deliver(note("lost", 1)) }, nil, false},
		{func() ([]api.Packet, bool) { return s.Ack(api.Puback, 1), true }, []api.Packet{publish(note("two", 2), 2)}, true},
		{func() ([]api.Packet, bool) { return s.Up(), true }, []api.Packet{dup(note("two", 2), 2)}, true},
		{func() ([]api.Packet, bool) { return s.Ack(api.Pubrec, 2), true }, []api.Packet{pubrel(2)}, true},
		{func() ([]api.Packet, bool) { s.Down(); return s.Up(), true }, []api.Packet{pubrel(2)}, true},
		{func() ([]api.Packet, bool) { return s.Ack(api.Pubcomp, 2), true }, nil, true},
		{func() ([]api.Packet, bool) { return s.Up(), true }, nil, true},
	}
	for i, c := range steps {
		if l, ok := c.does(); !sameSent(l, c.sent) || ok != c.ok {
			t.Errorf("P13.4, P13.5: step %d: %s, %t; want %s, %t", i, told(l), ok, told(c.sent), c.ok)
		}
	}
	if im := s.Image(); !sameImage(im, api.Session{Client: "k", Subs: []api.Ask{{Filter: "a", QoS: 2}}, Window: api.Window{Last: 2}}) {
		t.Errorf("P13.7: Image: %s", drawn(im))
	}
}

// TestExampleOfNumbers: the chapter's second example.
func TestExampleOfNumbers(t *testing.T) {
	s := session.New("k", false, api.Config{})
	got := []bool{s.Note(5), s.Note(5), s.Release(5), s.Release(5), s.Note(0), s.Note(65536), s.Note(5)}
	if want := []bool{true, false, true, false, false, false, true}; !slices.Equal(got, want) {
		t.Errorf("P13.6: %v; want %v", got, want)
	}
}

// TestNew: with nothing, offline, whatever the setup's numbers are; the key is any text.
func TestNew(t *testing.T) {
	for _, key := range []string{"", "k", "\x001", "a/+/#", "\xFF\xC0\x80", strings.Repeat("k", 1<<17)} {
		for _, lasting := range []bool{false, true} {
			for n := range extremes(0, maxSubs) {
				s := session.New(key, lasting, api.Config{Window: n, Queue: n, Subs: n})
				if s.Key() != key || s.Lasting() != lasting || s.Online() || len(s.Subs()) != 0 {
					t.Errorf("P13.1: New(%.20q, %t, of %d): %.20q, %t, %t, %s", key, lasting, n, s.Key(), s.Lasting(), s.Online(), asks(s.Subs()))
				}
				if im := s.Image(); !sameImage(im, api.Session{Client: key}) {
					t.Errorf("P13.1: New(%.20q, %t, of %d): %s", key, lasting, n, drawn(im))
				}
				for _, id := range []int{1, 2, 65535} {
					if s.Release(id) {
						t.Errorf("P13.1: New(%.20q, %t, of %d): %d is noted", key, lasting, n, id)
					}
				}
				if l := s.Up(); len(l) != 0 || !s.Online() {
					t.Errorf("P13.4: New(%.20q, %t, of %d): Up: %s", key, lasting, n, told(l))
				}
			}
		}
	}
}

// TestSubscribeRefuses: what is wrong changes nothing, be there room or not, and be the filter there or not.
func TestSubscribeRefuses(t *testing.T) {
	for _, had := range []int{0, 1, 2} {
		s := session.New("k", true, api.Config{Subs: 2})
		want := []api.Ask{{Filter: "a/#", QoS: 1}, {Filter: "b", QoS: 0}}[:had]
		for _, a := range want {
			s.Subscribe(a)
		}
		hold := func(a api.Ask) {
			t.Helper()
			if code := s.Subscribe(a); code != failed {
				t.Errorf("P13.3: Subscribe(%.20q at %d): %d", a.Filter, a.QoS, code)
			}
			if l := s.Subs(); !slices.Equal(l, want) {
				t.Errorf("P13.3: Subscribe(%.20q at %d) makes %s of %s", a.Filter, a.QoS, asks(l), asks(want))
			}
		}
		for _, filter := range noFilters() {
			for _, qos := range append(noQoS(), 0, 1, 2) {
				hold(api.Ask{Filter: filter, QoS: qos})
			}
		}
		for _, filter := range []string{"a/#", "b", "c"} {
			for _, qos := range noQoS() {
				hold(api.Ask{Filter: filter, QoS: qos})
			}
		}
	}
}

// TestSubscribe: each filter at each quality, first and again; the quality is the last one, be it lower or not.
func TestSubscribe(t *testing.T) {
	s := session.New("k", true, api.Config{Subs: 100})
	for _, filter := range inOrder() {
		for _, qos := range []int{1, 2, 0, 0, 2, 1, 0, 1} {
			if code := s.Subscribe(api.Ask{Filter: filter, QoS: qos}); code != qos {
				t.Errorf("P13.3: Subscribe(%.20q at %d): %d", filter, qos, code)
			}
			at := slices.IndexFunc(s.Subs(), func(a api.Ask) bool { return a.Filter == filter })
			if at < 0 || s.Subs()[at].QoS != qos {
				t.Errorf("P13.3: Subscribe(%.20q at %d): Subs: %s", filter, qos, asks(s.Subs()))
			}
		}
	}
	if n := len(s.Subs()); n != len(inOrder()) {
		t.Errorf("P13.3: %d filters", n)
	}
}

// TestRoomForFilters: as many as the setup says, and no more; a filter that is there takes another quality still, and one that goes makes room.
func TestRoomForFilters(t *testing.T) {
	for most, may := range map[int]int{math.MinInt: 0, -1: 0, 0: 0, 1: 1, 2: 2, 5: 5} {
		x := newTwin(t, "k", true, api.Config{Subs: most})
		for i := range may + 2 {
			filter := fmt.Sprint("f/", i)
			want := i % 3
			if i >= may {
				want = failed
			}
			if code := x.s.Subscribe(api.Ask{Filter: filter, QoS: i % 3}); code != want {
				t.Fatalf("P13.3: of %d: filter %d: %d", most, i, code)
			}
			x.m.subscribe(api.Ask{Filter: filter, QoS: i % 3})
			if n := len(x.s.Subs()); n != min(i+1, may) {
				t.Fatalf("P13.9: of %d: %d filters behind %d", most, n, i+1)
			}
			x.hold()
		}
		for i := range may + 2 {
			x.subscribe(fmt.Sprint("f/", i), 2)
			x.hold()
		}
		x.unsubscribe("f/0")
		x.subscribe("g", 1)
		x.subscribe("f/0", 1)
		x.hold()
	}
}

// TestMostFilters: MaxSubs filters, by a setup of MaxSubs and of more; one fewer by one fewer.
func TestMostFilters(t *testing.T) {
	for most, may := range map[int]int{maxSubs - 1: maxSubs - 1, maxSubs: maxSubs, maxSubs + 1: maxSubs, 1<<32 + 1: maxSubs, math.MaxInt: maxSubs} {
		s := session.New("k", true, api.Config{Subs: most})
		for i := range may {
			if code := s.Subscribe(api.Ask{Filter: fmt.Sprint(i), QoS: 1}); code != 1 {
				t.Fatalf("P13.3: of %d: filter %d: %d", most, i, code)
			}
		}
		if code := s.Subscribe(api.Ask{Filter: "one more"}); code != failed {
			t.Errorf("P13.3: of %d: one more: %d", most, code)
		}
		if code := s.Subscribe(api.Ask{Filter: "77", QoS: 2}); code != 2 {
			t.Errorf("P13.3: of %d: one that is there: %d", most, code)
		}
		l := s.Subs()
		if len(l) != may || !slices.IsSortedFunc(l, func(a, b api.Ask) int { return topic.Compare(a.Filter, b.Filter) }) {
			t.Errorf("P13.3: of %d: %d filters, or not in order", most, len(l))
		}
		if !s.Unsubscribe("0") || s.Subscribe(api.Ask{Filter: "one more"}) != 0 || s.Subscribe(api.Ask{Filter: "0"}) != failed {
			t.Errorf("P13.3: of %d: one goes, another one comes", most)
		}
	}
}

// TestUnsubscribe: just that text goes, not what it matches nor what is like it; what isn't there is no matter.
func TestUnsubscribe(t *testing.T) {
	for _, filter := range append(noFilters(), inOrder()...) {
		x := newTwin(t, "k", true, api.Config{Subs: 100})
		for _, f := range inOrder() {
			x.subscribe(f, 1)
		}
		had := slices.Contains(inOrder(), filter)
		if ok := x.s.Unsubscribe(filter); ok != had {
			t.Errorf("P13.3: Unsubscribe(%.20q): %t", filter, ok)
		}
		x.m.unsubscribe(filter)
		x.hold()
		if x.s.Unsubscribe(filter) {
			t.Errorf("P13.3: Unsubscribe(%.20q) again: true", filter)
		}
		x.hold()
	}
	s := session.New("k", true, api.Config{Subs: 1})
	if s.Unsubscribe("a") || len(s.Subs()) != 0 {
		t.Error("P13.3: Unsubscribe of a new one")
	}
}

// TestOrderOfFilters: topic's, however they came.
func TestOrderOfFilters(t *testing.T) {
	r := rand.New(rand.NewSource(133))
	want := inOrder()
	for range 200 {
		s := session.New("k", true, api.Config{Subs: 100})
		for _, i := range r.Perm(len(want)) {
			s.Subscribe(api.Ask{Filter: want[i], QoS: i % 3})
		}
		for i, a := range s.Image().Subs {
			if b := s.Subs()[i]; a != b || a.Filter != want[i] || a.QoS != i%3 {
				t.Fatalf("P13.3, P13.7: place %d: %.20q at %d and %.20q at %d; want %.20q", i, a.Filter, a.QoS, b.Filter, b.QoS, want[i])
			}
		}
	}
}

// TestOnline: Up and Down, each again too, and nothing else.
func TestOnline(t *testing.T) {
	for _, lasting := range []bool{false, true} {
		x := newTwin(t, "k", lasting, api.Config{Window: 2, Queue: 2, Subs: 2})
		online := func(want bool) {
			t.Helper()
			if got := x.s.Online(); got != want {
				x.fault("P13.4", "Online: %t", got)
			}
		}
		for _, up := range []bool{false, true, true, false, false, true, false} {
			if up {
				x.up()
			} else {
				x.down()
			}
			online(up)
			x.subscribe("a", 1)
			x.deliver(note("m", 1))
			x.deliver(note("m", 0))
			x.ack(api.Puback, 1)
			x.note(1)
			x.release(1)
			x.unsubscribe("a")
			x.hold()
			online(up)
		}
	}
}

// TestWindowsBounds: as many under way and waiting as the setup says, a number beyond its bounds as the nearest.
func TestWindowsBounds(t *testing.T) {
	for most, may := range map[int]int{math.MinInt: 1, -1: 1, 0: 1, 1: 1, 2: 2, 5: 5} {
		for queue, room := range map[int]int{math.MinInt: 0, -1: 0, 0: 0, 1: 1, 3: 3} {
			s := session.New("k", true, api.Config{Window: most, Queue: queue})
			s.Up()
			for i := range may + room + 2 {
				l, ok := s.Deliver(note("m", 1+i%2))
				if (len(l) == 1) != (i < may) || ok != (i < may+room) {
					t.Fatalf("P13.5: of %d and %d: message %d: %s, %t", most, queue, i, told(l), ok)
				}
				if w := s.Image().Window; len(w.Flight) != min(i+1, may) || len(w.Queue) != min(max(i+1-may, 0), room) {
					t.Fatalf("P13.9: of %d and %d: message %d: %d under way, %d wait", most, queue, i, len(w.Flight), len(w.Queue))
				}
			}
		}
	}
	for _, beyond := range []int{0, 1, math.MaxInt - maxQueue} {
		s := session.New("k", true, api.Config{Window: maxWindow + beyond, Queue: maxQueue + beyond})
		s.Up()
		for i := range maxWindow + maxQueue + 1 {
			if l, ok := s.Deliver(note("m", 1)); (len(l) == 1) != (i < maxWindow) || ok != (i < maxWindow+maxQueue) {
				t.Fatalf("P13.5: of the most, and %d: message %d: %s, %t", beyond, i, told(l), ok)
			}
		}
	}
}

// TestDeliver: each quality, online and not; a topic, a payload and a mark are as they were, whether they may be or not.
func TestDeliver(t *testing.T) {
	for _, name := range []string{"", "a/b", "+/#", "\x00\xFF", strings.Repeat("a", 65536)} {
		for _, payload := range [][]byte{nil, {}, {0}, []byte(strings.Repeat("p", 1<<17))} {
			for _, retain := range []bool{false, true} {
				m := api.Message{Topic: name, Payload: payload, Retain: retain}
				x := newTwin(t, "k", true, api.Config{Window: 1, Queue: 1})
				for _, online := range []bool{false, true, false} {
					x.down()
					if online {
						x.up()
					}
					before := x.s.Image()
					l, ok := x.s.Deliver(m)
					if want := []api.Packet{{Kind: api.Publish, Msg: m}}; ok != online || online && !sameSent(l, want) || !online && len(l) != 0 {
						t.Errorf("P13.5: Deliver(%s), online %t: %s, %t", line(m), online, told(l), ok)
					}
					for _, qos := range noQoS() {
						n := m
						n.QoS = qos
						if l, ok := x.s.Deliver(n); len(l) != 0 || ok {
							t.Errorf("P13.5: Deliver(%s), online %t: %s, %t", line(n), online, told(l), ok)
						}
					}
					if im := x.s.Image(); !sameImage(im, before) {
						t.Errorf("P13.5: quality 0, or none, makes %s of %s", drawn(im), drawn(before))
					}
					for _, qos := range []int{2, 1, 1} {
						n := m
						n.QoS = qos
						x.deliver(n)
						x.hold()
					}
				}
			}
		}
	}
}

// TestDeliverAsksNoFilter: m is a copy already: whether a filter of the session matches isn't asked.
func TestDeliverAsksNoFilter(t *testing.T) {
	s := session.New("k", true, api.Config{Window: 9, Queue: 9, Subs: 9})
	s.Up()
	for i, filter := range []string{"", "b", "a", "#"} {
		s.Subscribe(api.Ask{Filter: filter})
		if l, ok := s.Deliver(note("a", 0)); len(l) != 1 || !ok {
			t.Errorf("P13.5: quality 0, %d filters: %s, %t", i, told(l), ok)
		}
		if l, ok := s.Deliver(note("a", 2)); !sameSent(l, []api.Packet{publish(note("a", 2), i+1)}) || !ok {
			t.Errorf("P13.5: quality 2, %d filters: %s, %t", i, told(l), ok)
		}
	}
}

// TestAck: each kind for each number, in each state, as the window has it.
func TestAck(t *testing.T) {
	standing := func(online bool) *twin {
		x := newTwin(t, "k", true, api.Config{Window: 3, Queue: 2})
		x.up()
		x.deliver(note("one", 1))
		x.deliver(note("two", 2))
		x.deliver(note("three", 2))
		x.deliver(note("four", 1))
		x.ack(api.Pubrec, 3)
		x.note(1)
		if !online {
			x.down()
		}
		x.hold()
		return x
	}
	for kind := -1; kind < 17; kind++ {
		for id := -1; id < 6; id++ {
			x := standing(true)
			var want []api.Packet
			switch {
			case kind == api.Puback && id == 1, kind == api.Pubcomp && id == 3:
				want = []api.Packet{publish(note("four", 1), 4)}
			case kind == api.Pubrec && (id == 2 || id == 3):
				want = []api.Packet{pubrel(id)}
			}
			x.packets("P13.4", x.s.Ack(kind, id), want)
			x.m.out.Ack(kind, id)
			x.hold()
			x.up()
			off := standing(false)
			off.packets("P13.4", off.s.Ack(kind, id), nil)
			off.hold()
			off.up()
		}
	}
	x := standing(true)
	for _, id := range noID() {
		for _, kind := range []int{api.Puback, api.Pubrec, api.Pubcomp} {
			x.ack(kind, id)
			x.hold()
		}
	}
}

// TestNotes: every number once, and none that is no packet number; a release makes way for the next.
func TestNotes(t *testing.T) {
	s := session.New("k", true, api.Config{})
	wrong := func() {
		t.Helper()
		before := s.Image()
		for _, id := range noID() {
			if s.Note(id) || s.Release(id) {
				t.Errorf("P13.6: %d is a number", id)
			}
		}
		if !sameImage(s.Image(), before) {
			t.Error("P13.6: what is no number changes something")
		}
	}
	wrong()
	for i := range maxID {
		id := i*7%maxID + 1
		if s.Release(id) || !s.Note(id) || s.Note(id) {
			t.Fatalf("P13.6: number %d, the %dth", id, i)
		}
	}
	wrong()
	l := s.Image().Inbox
	for i, id := range l {
		if id != i+1 {
			t.Fatalf("P13.7: place %d of Inbox: %d", i, id)
		}
	}
	if len(l) != maxID {
		t.Errorf("P13.7: %d numbers in Inbox", len(l))
	}
	for i := range maxID {
		id := i*11%maxID + 1
		if s.Note(id) || !s.Release(id) || s.Release(id) {
			t.Fatalf("P13.6: number %d goes, the %dth", id, i)
		}
	}
	if l := s.Image().Inbox; len(l) != 0 {
		t.Errorf("P13.6: %d are left", len(l))
	}
	if !s.Note(65535) || !s.Note(1) || s.Note(1) {
		t.Error("P13.6: numbers that were released")
	}
}

// TestNotesStandAlone: numbers that came in, and those under way, have nothing to do with one another; connections neither.
func TestNotesStandAlone(t *testing.T) {
	x := newTwin(t, "k", true, api.Config{Window: 2, Queue: 2})
	x.note(1)
	x.note(3)
	x.up()
	x.deliver(note("a", 2))
	x.deliver(note("b", 1))
	for _, id := range []int{1, 2, 3} {
		x.note(id)
		for _, kind := range []int{api.Puback, api.Pubrec, api.Pubcomp} {
			x.ack(kind, id)
			x.hold()
		}
	}
	x.deliver(note("c", 2))
	x.release(3)
	x.release(4)
	x.down()
	x.hold()
	x.note(2)
	x.release(1)
	x.hold()
	x.up()
	x.hold()
	if l := x.s.Image().Inbox; !slices.Equal(l, []int{2}) {
		t.Errorf("P13.6: Inbox: %v", l)
	}
}

// TestAskingChangesNothing: Key, Lasting, Online, Subs and Image, asked again.
func TestAskingChangesNothing(t *testing.T) {
	x := newTwin(t, "k", true, api.Config{Window: 1, Queue: 1, Subs: 2})
	x.subscribe("b", 1)
	x.subscribe("a", 2)
	x.note(7)
	x.note(5)
	x.deliver(note("m", 1))
	for range 3 {
		x.hold()
	}
	x.up()
	x.deliver(note("n", 2))
	for range 3 {
		x.hold()
	}
	x.up()
	x.hold()
}
