package audit_test

import (
	"bytes"
	"math/rand"
	"slices"
	"strings"
	"testing"

	"crier/api"
	"crier/audit"
)

// overwrite writes over a list, and over its spare room.
func overwrite[T any](l []T, with T) {
	l = l[:cap(l)]
	for i := range l {
		l[i] = with
	}
}

func overwriteMessages(l []api.Message) {
	for _, m := range l {
		overwrite(m.Payload, '!')
	}
	overwrite(l, api.Message{Topic: "spoilt", QoS: 9})
}

// spoil writes over all of an image, list by list, and over all spare room.
func spoil(m api.Image) {
	for _, s := range m.Sessions {
		overwrite(s.Subs, api.Ask{Filter: "spoilt", QoS: 9})
		for _, f := range s.Window.Flight {
			overwrite(f.Msg.Payload, '!')
		}
		overwrite(s.Window.Flight, api.Flight{ID: -1})
		overwriteMessages(s.Window.Queue)
		overwrite(s.Inbox, -1)
	}
	overwrite(m.Sessions, api.Session{Client: "spoilt"})
	overwriteMessages(m.Retained)
}

// roomy tells the same image with spare room behind all lists, and how all of it looks, the room too.
func roomy(m api.Image) (api.Image, func() string) {
	m = copied(m)
	var seen []func() string
	grow(&m.Sessions, &seen)
	for i := range m.Sessions {
		s := &m.Sessions[i]
		grow(&s.Subs, &seen)
		grow(&s.Inbox, &seen)
		grow(&s.Window.Flight, &seen)
		for j := range s.Window.Flight {
			grow(&s.Window.Flight[j].Msg.Payload, &seen)
		}
		growMessages(&s.Window.Queue, &seen)
	}
	growMessages(&m.Retained, &seen)
	return m, func() string {
		var b strings.Builder
		for _, tell := range seen {
			b.WriteString(tell())
		}
		return b.String()
	}
}

func growMessages(l *[]api.Message, seen *[]func() string) {
	grow(l, seen)
	for i := range *l {
		grow(&(*l)[i].Payload, seen)
	}
}

func grow[T any](l *[]T, seen *[]func() string) {
	*l = slices.Grow(*l, 3)
	whole := (*l)[:cap(*l)]
	*seen = append(*seen, func() string { return drawn(whole) })
}

// busy tells an image of which all calls have something to tell: some filters, clients and topics in no order, several of one.
func busy(r *rand.Rand) api.Image {
	m := full()
	m.Sessions = append(m.Sessions, someImage(r, []string{"a", "a/b", "a/+", "#", "+/b"}, true).Sessions...)
	for range r.Intn(9) {
		m.Retained = append(m.Retained, kept(pick(r, "b", "a", "a/b", "a.b", "+"), someQoS(r, true)))
	}
	for _, s := range spoilers() {
		if r.Intn(60) == 0 {
			m = fitted(m, s)
		}
	}
	return m
}

// answers: what all calls tell of an image.
type answers struct {
	faults     []api.Fault
	who, could []api.Entry
	kept       []api.Message
	spare      []api.Spare
}

func answersOf(m api.Image) answers {
	x := note("a/b", 2)
	return answers{audit.Faults(m), audit.Who(m, x), audit.Could(m, "+/b"), audit.Kept(m, api.Ask{Filter: "#", QoS: 1}), audit.Spare(m)}
}

func (a answers) drawn() string {
	return drawn(a.faults) + drawn(a.who) + drawn(a.could) + drawn(a.kept) + drawn(a.spare)
}

func (a answers) spoil() {
	overwrite(a.faults, api.Fault{At: -1})
	overwrite(a.who, api.Entry{Key: "spoilt"})
	overwrite(a.could, api.Entry{Key: "spoilt"})
	overwriteMessages(a.kept)
	overwrite(a.spare, api.Spare{Client: "spoilt"})
}

// TestMemory: no call changes or keeps what it is handed, or the room behind its lists; no answer is touched by what is done with another one, or with what was handed in.
func TestMemory(t *testing.T) {
	r := rand.New(rand.NewSource(219))
	var most answers
	for range 300 {
		m, whole := roomy(busy(r))
		before := whole()
		first, second := answersOf(m), answersOf(m)
		if whole() != before {
			t.Fatal("DOC 3: a call changes what it is handed")
		}
		told := first.drawn()
		if second.drawn() != told {
			t.Fatalf("DOC 6: two answers of one image: %s, %s", told, second.drawn())
		}
		second.spoil()
		if whole() != before {
			t.Fatal("DOC 3: an answer is what was handed in")
		}
		if first.drawn() != told {
			t.Fatal("DOC 3: two answers share memory")
		}
		third := answersOf(m)
		if third.drawn() != told {
			t.Fatal("DOC 3: an earlier answer shows in a later one")
		}
		spoil(m)
		if first.drawn() != told || third.drawn() != told {
			t.Fatal("DOC 3: an answer keeps what was handed in")
		}
		apart(t, first.kept)
		if len(first.kept) > len(most.kept) {
			most.kept = first.kept
		}
		most.faults, most.who, most.could, most.spare = append(most.faults, first.faults...), append(most.who, first.who...), append(most.could, first.could...), append(most.spare, first.spare...)
	}
	if len(most.kept) < 8 || len(most.faults) < 300 || len(most.who) < 300 || len(most.could) < 300 || len(most.spare) < 300 {
		t.Errorf("only %d kept, %d faults, %d who, %d could, %d spare", len(most.kept), len(most.faults), len(most.who), len(most.could), len(most.spare))
	}
}

// apart holds that all payloads of an answer, with their spare room, lie apart.
func apart(t *testing.T, l []api.Message) {
	t.Helper()
	for i, m := range l {
		overwrite(m.Payload, byte(i))
	}
	for i, m := range l {
		if b := m.Payload[:cap(m.Payload)]; bytes.Count(b, []byte{byte(i)}) != len(b) {
			t.Fatal("DOC 3: two payloads of one answer share memory")
		}
	}
}

// TestSharedPayload: payloads that are one list where they are handed in are several in the answer.
func TestSharedPayload(t *testing.T) {
	b := []byte("xyz")
	m := api.Image{Retained: []api.Message{{Topic: "a", Payload: b}, {Topic: "b", Payload: b[:1]}, {Topic: "c", Payload: b[1:]}}}
	l := audit.Kept(m, api.Ask{Filter: "#"})
	want(t, "P21.4: one payload thrice", l, m.Retained)
	apart(t, l)
	if string(b) != "xyz" {
		t.Error("DOC 3: an answer is what was handed in")
	}
}

// TestEmptyLists: a nil list and an empty one are the same.
func TestEmptyLists(t *testing.T) {
	bare := func(l []api.Message, f []api.Flight, a []api.Ask, n []int, b []byte) api.Image {
		s := api.Session{Client: "c", Subs: a, Window: api.Window{Flight: f, Queue: l}, Inbox: n}
		o := api.Session{Client: "d", Window: api.Window{Flight: []api.Flight{{ID: 1, Released: true, Msg: api.Message{Payload: b}}}}}
		return api.Image{Sessions: []api.Session{s, o}, Retained: []api.Message{{Topic: "a", Payload: b, Retain: true}}}
	}
	a, b := answersOf(bare(nil, nil, nil, nil, nil)), answersOf(bare([]api.Message{}, []api.Flight{}, []api.Ask{}, []int{}, []byte{}))
	if a.drawn() != b.drawn() {
		t.Errorf("DOC 2: %s, %s", a.drawn(), b.drawn())
	}
	a, b = answersOf(api.Image{}), answersOf(api.Image{Sessions: []api.Session{}, Retained: []api.Message{}})
	if a.drawn() != b.drawn() {
		t.Errorf("DOC 2: %s, %s", a.drawn(), b.drawn())
	}
}
