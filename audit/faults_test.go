package audit_test

import (
	"math/rand"
	"slices"
	"strconv"
	"strings"
	"testing"

	"crier/api"
	"crier/audit"
	"crier/image"
)

// TestFaultsExamples: the chapter's.
func TestFaultsExamples(t *testing.T) {
	m := api.Image{Sessions: []api.Session{{Client: "b"}, {Client: "a", Inbox: []int{5, 5}}}}
	want(t, "P21.1: b, a", audit.Faults(m), []api.Fault{{At: 1, Err: errOrder}})
	m.Retained = []api.Message{{Topic: "a", Retain: true}}
	want(t, "P21.1: a retained message without payload behind them", audit.Faults(m), []api.Fault{{At: 1, Err: errOrder}, {At: 2, Err: errMessage}})
	want(t, "P21.1: nothing", audit.Faults(api.Image{}), []api.Fault(nil))
	want(t, "P21.1: full", audit.Faults(full()), []api.Fault(nil))
}

// spoiler: a way to make full an image that can't be, and the faults that are told of it; none: it is right still, or wrong in what isn't asked.
type spoiler struct {
	name  string
	spoil func(m *api.Image)
	want  []api.Fault
}

func at(place int, errors ...api.Errno) []api.Fault {
	var l []api.Fault
	for _, e := range errors {
		l = append(l, api.Fault{At: place, Err: e})
	}
	return l
}

func spoilers() []spoiler {
	return slices.Concat(orderSpoilers(), clientSpoilers(), filterSpoilers(), messageSpoilers(), windowSpoilers(), inboxSpoilers(), retainedSpoilers())
}

// orderSpoilers: of what rises, and of what is like what stands ahead of it.
func orderSpoilers() []spoiler {
	return []spoiler{
		{"clients swapped", func(m *api.Image) { m.Sessions[0], m.Sessions[1] = m.Sessions[1], m.Sessions[0] }, at(1, errOrder)},
		{"all clients turned", func(m *api.Image) { slices.Reverse(m.Sessions) }, slices.Concat(at(1, errOrder), at(2, errOrder))},
		{"a client twice", func(m *api.Image) { m.Sessions[1].Client = "c" }, at(1, errOrder)},
		{"one client", func(m *api.Image) { m.Sessions[1].Client, m.Sessions[2].Client = "c", "c" }, slices.Concat(at(1, errOrder), at(2, errOrder))},
		{"a client in the order of topics", func(m *api.Image) { m.Sessions[1].Client, m.Sessions[2].Client = "c/d", "c.d" }, at(2, errOrder)},
		{"a client ahead of a greater one further ahead", func(m *api.Image) { m.Sessions[0].Client = "x" }, at(1, errOrder)},
		{"a client ahead of the first one", func(m *api.Image) { m.Sessions[1].Client = "b" }, at(1, errOrder)},
		{"filters swapped", func(m *api.Image) { swap(m.Sessions[0].Subs) }, at(0, errOrder)},
		{"the last filters swapped", func(m *api.Image) { swap(m.Sessions[0].Subs[1:]) }, at(0, errOrder)},
		{"a filter twice", func(m *api.Image) { m.Sessions[0].Subs[1].Filter = "#" }, at(0, errOrder)},
		{"a filter twice, behind", func(m *api.Image) { m.Sessions[0].Subs[2].Filter = "a/+" }, at(0, errOrder)},
		{"filters byte by byte", func(m *api.Image) {
			m.Sessions[1].Subs = []api.Ask{{Filter: "a.b"}, {Filter: "a/b"}}
		}, at(1, errOrder)},
		{"filters in their order", func(m *api.Image) {
			m.Sessions[1].Subs = []api.Ask{{Filter: "/a"}, {Filter: "a"}, {Filter: "a/"}, {Filter: "a/b/c"}, {Filter: "a.b"}, {Filter: "b"}}
		}, nil},
		{"filters of one session ahead of another one's", func(m *api.Image) { m.Sessions[1].Subs[0].Filter = "#" }, nil},
		{"numbers swapped", func(m *api.Image) { swap(m.Sessions[0].Inbox) }, at(0, errOrder)},
		{"the last numbers swapped", func(m *api.Image) { swap(m.Sessions[0].Inbox[1:]) }, at(0, errOrder)},
		{"a number twice", func(m *api.Image) { m.Sessions[0].Inbox[2] = 300 }, at(0, errOrder)},
		{"a number twice, ahead", func(m *api.Image) { m.Sessions[0].Inbox[1] = 1 }, at(0, errOrder)},
		{"all three don't rise", func(m *api.Image) {
			m.Sessions[0].Client = "c.d"
			m.Sessions[1].Subs, m.Sessions[1].Inbox = []api.Ask{{Filter: "b"}, {Filter: "b"}, {Filter: "a"}}, []int{9, 8, 8}
		}, at(1, errOrder)},
		{"each of the three in another session", func(m *api.Image) {
			m.Sessions[0].Inbox, m.Sessions[2].Client, m.Sessions[1].Subs = []int{2, 1}, "c", []api.Ask{{Filter: "b"}, {Filter: "a"}}
		}, slices.Concat(at(0, errOrder), at(1, errOrder), at(2, errOrder))},
	}
}

func swap[T any](l []T) { l[0], l[1] = l[1], l[0] }

func clientSpoilers() []spoiler {
	l := []spoiler{
		{"no name", func(m *api.Image) { m.Sessions[0].Client = "" }, at(0, errText)},
		{"no name behind another one", func(m *api.Image) { m.Sessions[1].Client = "" }, at(1, errOrder, errText)},
		{"no names", func(m *api.Image) { m.Sessions[0].Client, m.Sessions[1].Client = "", "" }, slices.Concat(at(0, errText), at(1, errOrder, errText))},
	}
	for _, s := range noTexts() {
		l = append(l, spoiler{"no text for a name", func(m *api.Image) { m.Sessions = []api.Session{{Client: s}} }, at(0, errText)})
	}
	for _, s := range []string{"+", "#", "a+", "#/a", "/", "$", "é", "\U0010FFFF", strings.Repeat("c", maxText), strings.Repeat("#", maxText), strings.Repeat("/", maxText)} {
		l = append(l, spoiler{"a name that is a text", func(m *api.Image) { m.Sessions = []api.Session{{Client: s}} }, nil})
	}
	return l
}

func filterSpoilers() []spoiler {
	var l []spoiler
	for _, s := range noFilters() {
		l = append(l, spoiler{"no filter alone", func(m *api.Image) { m.Sessions[1].Subs[0].Filter = s }, at(1, errFilter)})
	}
	for _, n := range noQoS() {
		l = append(l, spoiler{"no quality of a filter", func(m *api.Image) { m.Sessions[0].Subs[0].QoS = n }, at(0, errFilter)})
		l = append(l, spoiler{"no quality of the last filter", func(m *api.Image) { m.Sessions[0].Subs[2].QoS = n }, at(0, errFilter)})
	}
	for _, s := range []string{"#", "+", "+/+/#", "/", "$a/#", "a", strings.Repeat("f", maxText), strings.Repeat("f", maxText-2) + "/#"} {
		for q := range 3 {
			l = append(l, spoiler{"a filter", func(m *api.Image) { m.Sessions[1].Subs[0] = api.Ask{Filter: s, QoS: q} }, nil})
		}
	}
	return append(l,
		spoiler{"no filter behind others", func(m *api.Image) { m.Sessions[0].Subs[2].Filter = "b+" }, at(0, errFilter)},
		spoiler{"no filter, out of order", func(m *api.Image) { m.Sessions[0].Subs[2].Filter = "#/a" }, at(0, errOrder, errFilter)},
		spoiler{"several wrong filters", func(m *api.Image) { m.Sessions[0].Subs[0].QoS, m.Sessions[0].Subs[2].Filter = 3, "b+" }, at(0, errFilter)},
	)
}

func messageSpoilers() []spoiler {
	var l []spoiler
	for _, n := range append(noQoS(), 0) {
		l = append(l, spoiler{"no quality of what is under way", func(m *api.Image) { m.Sessions[0].Window.Flight[1].Msg.QoS = n }, at(0, errMessage)})
		l = append(l, spoiler{"no quality of the last one under way", func(m *api.Image) { m.Sessions[0].Window.Flight[2].Msg.QoS = n }, at(0, errMessage)})
		l = append(l, spoiler{"no quality of what waits", func(m *api.Image) { m.Sessions[0].Window.Queue[0].QoS = n }, at(0, errMessage)})
		l = append(l, spoiler{"no quality of the last one that waits", func(m *api.Image) { m.Sessions[0].Window.Queue[1].QoS = n }, at(0, errMessage)})
	}
	for _, s := range noTopics() {
		l = append(l, spoiler{"no topic of what is under way", func(m *api.Image) { m.Sessions[0].Window.Flight[2].Msg.Topic = s }, at(0, errMessage)})
		l = append(l, spoiler{"no topic of what waits", func(m *api.Image) { m.Sessions[1].Window.Queue[0].Topic = s }, at(1, errMessage)})
	}
	return append(l,
		spoiler{"both wrong", func(m *api.Image) {
			m.Sessions[0].Window.Flight[1].Msg, m.Sessions[0].Window.Queue[1] = api.Message{}, api.Message{}
		}, at(0, errMessage)},
		spoiler{"no payload, and marks", func(m *api.Image) {
			m.Sessions[0].Window.Flight[1].Msg = api.Message{Topic: "/", QoS: 1, Retain: true}
			m.Sessions[0].Window.Queue[0] = api.Message{Topic: strings.Repeat("t", maxText), QoS: 2}
		}, nil},
	)
}

func windowSpoilers() []spoiler {
	var l []spoiler
	for _, n := range []int{-1, 65536, 65537, 1 << 32, -1 << 63} {
		l = append(l, spoiler{"no last number", func(m *api.Image) { m.Sessions[0].Window.Last = n }, at(0, errWindow)})
		l = append(l, spoiler{"no last number, of nothing", func(m *api.Image) { m.Sessions[2].Window.Last = n }, at(2, errWindow)})
	}
	for _, n := range []int{0, 1, 6, maxID} {
		l = append(l, spoiler{"a last number", func(m *api.Image) { m.Sessions[0].Window.Last = n }, nil})
	}
	for _, n := range noID() {
		l = append(l, spoiler{"no number of a released one", func(m *api.Image) { m.Sessions[0].Window.Flight[0].ID = n }, at(0, errWindow)})
		l = append(l, spoiler{"no number of what is under way", func(m *api.Image) { m.Sessions[0].Window.Flight[2].ID = n }, at(0, errWindow)})
	}
	for _, n := range []int{1, 2, maxID} {
		l = append(l, spoiler{"a number", func(m *api.Image) { m.Sessions[0].Window.Flight = []api.Flight{{ID: n, Msg: note("a", 1)}} }, nil})
	}
	for _, x := range []api.Message{{Topic: "t"}, {Payload: []byte{0}}, {QoS: 1}, {QoS: 2}, {QoS: -1}, {Retain: true}, note("a", 2)} {
		l = append(l, spoiler{"a message of a released one", func(m *api.Image) { m.Sessions[0].Window.Flight[0].Msg = x }, at(0, errWindow)})
	}
	return append(l,
		spoiler{"a released one with an empty payload", func(m *api.Image) { m.Sessions[0].Window.Flight[0].Msg.Payload = []byte{} }, nil},
		spoiler{"a number of two under way", func(m *api.Image) { m.Sessions[0].Window.Flight[1].ID = 65535 }, at(0, errWindow)},
		spoiler{"a number of a released one and another", func(m *api.Image) { m.Sessions[0].Window.Flight[2].ID = 7 }, at(0, errWindow)},
		spoiler{"a number of two released ones", func(m *api.Image) {
			m.Sessions[0].Window.Flight = []api.Flight{{ID: 3, Released: true}, {ID: 3, Released: true}}
		}, at(0, errWindow)},
		spoiler{"a number of two with messages that can't be", func(m *api.Image) { m.Sessions[2].Window.Flight = []api.Flight{{ID: 3}, {ID: 3}} }, at(2, errMessage, errWindow)},
		spoiler{"a number under way to two sessions", func(m *api.Image) { m.Sessions[1].Window.Flight = []api.Flight{{ID: 7, Released: true}} }, nil},
		spoiler{"under way and come in", func(m *api.Image) { m.Sessions[0].Inbox = []int{6, 7} }, nil},
		spoiler{"a released one's message, and one under way without", func(m *api.Image) {
			m.Sessions[0].Window.Flight[0].Msg, m.Sessions[0].Window.Flight[1].Msg = note("a", 1), api.Message{}
		}, at(0, errMessage, errWindow)},
		spoiler{"wrong at the end alone", func(m *api.Image) {
			m.Sessions[0].Window.Flight = append(m.Sessions[0].Window.Flight, api.Flight{ID: 6, Msg: note("a", 1)})
		}, at(0, errWindow)},
	)
}

func inboxSpoilers() []spoiler {
	var l []spoiler
	for _, n := range noID() {
		l = append(l, spoiler{"no number came in", func(m *api.Image) { m.Sessions[1].Inbox[0] = n }, at(1, errInbox)})
	}
	for _, n := range []int{1, maxID} {
		l = append(l, spoiler{"a number came in", func(m *api.Image) { m.Sessions[1].Inbox[0] = n }, nil})
	}
	return append(l,
		spoiler{"no number last", func(m *api.Image) { m.Sessions[0].Inbox[2] = 65536 }, at(0, errInbox)},
		spoiler{"no number first", func(m *api.Image) { m.Sessions[0].Inbox[0] = 0 }, at(0, errInbox)},
		spoiler{"no number, which doesn't rise", func(m *api.Image) { m.Sessions[0].Inbox[1] = 0 }, at(0, errOrder, errInbox)},
	)
}

func retainedSpoilers() []spoiler {
	var l []spoiler
	for _, s := range noTopics() {
		l = append(l, spoiler{"no topic retained", func(m *api.Image) { m.Retained = []api.Message{kept(s, 1)} }, at(3, errMessage)})
	}
	for _, n := range noQoS() {
		l = append(l, spoiler{"no quality retained", func(m *api.Image) { m.Retained[2].QoS = n }, at(5, errMessage)})
	}
	return append(l,
		spoiler{"no payload", func(m *api.Image) { m.Retained[0].Payload = nil }, at(3, errMessage)},
		spoiler{"an empty payload", func(m *api.Image) { m.Retained[1].Payload = []byte{} }, at(4, errMessage)},
		spoiler{"no retain mark", func(m *api.Image) { m.Retained[2].Retain = false }, at(5, errMessage)},
		spoiler{"retained ones swapped", func(m *api.Image) { swap(m.Retained) }, at(4, errOrder)},
		spoiler{"all retained ones turned", func(m *api.Image) { slices.Reverse(m.Retained) }, slices.Concat(at(4, errOrder), at(5, errOrder))},
		spoiler{"a topic twice", func(m *api.Image) { m.Retained[2].Topic = "a.b" }, at(5, errOrder)},
		spoiler{"topics byte by byte", func(m *api.Image) { m.Retained = []api.Message{kept("a.b", 0), kept("a/b", 0)} }, at(4, errOrder)},
		spoiler{"zero behind others", func(m *api.Image) { m.Retained[2] = api.Message{} }, at(5, errOrder, errMessage)},
		spoiler{"no sessions", func(m *api.Image) { m.Sessions, m.Retained[1].Retain = nil, false }, at(1, errMessage)},
		spoiler{"another Autos", func(m *api.Image) { m.Autos = -1 }, nil},
		spoiler{"all is wrong", func(m *api.Image) {
			m.Sessions[1] = api.Session{Subs: []api.Ask{{}}, Window: api.Window{Last: -1, Queue: []api.Message{{}}}, Inbox: []int{0}}
			m.Retained[1] = api.Message{}
		}, slices.Concat(at(1, errOrder, errText, errFilter, errMessage, errWindow, errInbox), at(4, errOrder, errMessage))},
	)
}

// TestFaultsOne: each single thing that can't be, and what can; the model is held against the same.
func TestFaultsOne(t *testing.T) {
	for _, s := range spoilers() {
		m := full()
		s.spoil(&m)
		want(t, "P21.1: "+s.name, audit.Faults(m), s.want)
		want(t, "the model: "+s.name, faultsOf(m), s.want)
		if _, e := image.Check(m); len(s.want) > 0 && e == api.OK {
			t.Errorf("P21.6: %s: image.Check answers OK", s.name)
		}
	}
}

// faultsOf: P21.1, fault by fault.
func faultsOf(m api.Image) []api.Fault {
	var l []api.Fault
	for i, s := range m.Sessions {
		found := map[api.Errno]bool{errText: s.Client == "" || !isText(s.Client)}
		found[errOrder] = i > 0 && strings.Compare(m.Sessions[i-1].Client, s.Client) >= 0
		for j, a := range s.Subs {
			found[errOrder] = found[errOrder] || j > 0 && !ahead(s.Subs[j-1].Filter, a.Filter)
			found[errFilter] = found[errFilter] || !isFilter(a.Filter) || !isQoS(a.QoS)
		}
		for j, id := range s.Inbox {
			found[errOrder] = found[errOrder] || j > 0 && s.Inbox[j-1] >= id
			found[errInbox] = found[errInbox] || id < 1 || id > maxID
		}
		noMessage := func(x api.Message) bool { return x.QoS != 1 && x.QoS != 2 || !isTopic(x.Topic) }
		found[errWindow] = s.Window.Last < 0 || s.Window.Last > maxID
		for j, f := range s.Window.Flight {
			zero := f.Msg.Topic == "" && len(f.Msg.Payload) == 0 && f.Msg.QoS == 0 && !f.Msg.Retain
			found[errMessage] = found[errMessage] || !f.Released && noMessage(f.Msg)
			found[errWindow] = found[errWindow] || f.ID < 1 || f.ID > maxID || f.Released && !zero
			for _, g := range s.Window.Flight[:j] {
				found[errWindow] = found[errWindow] || f.ID == g.ID
			}
		}
		found[errMessage] = found[errMessage] || slices.ContainsFunc(s.Window.Queue, noMessage)
		for e := errOrder; e <= errInbox; e++ {
			if found[e] {
				l = append(l, api.Fault{At: i, Err: e})
			}
		}
	}
	for i, x := range m.Retained {
		place := len(m.Sessions) + i
		if i > 0 && !ahead(m.Retained[i-1].Topic, x.Topic) {
			l = append(l, api.Fault{At: place, Err: errOrder})
		}
		if !isTopic(x.Topic) || !isQoS(x.QoS) || len(x.Payload) == 0 || !x.Retain {
			l = append(l, api.Fault{At: place, Err: errMessage})
		}
	}
	return l
}

// fitted tells an image spoilt by a way that may not fit it.
func fitted(m api.Image, s spoiler) (after api.Image) {
	before := copied(m)
	defer func() {
		if recover() != nil {
			after = before
		}
	}()
	s.spoil(&m)
	return m
}

// TestFaultsMany: several things that can't be, in one image, each of which is told where it is.
func TestFaultsMany(t *testing.T) {
	r := rand.New(rand.NewSource(211))
	all := spoilers()
	counts := map[int]int{}
	right := 0
	for range 20000 {
		m := full()
		for range r.Intn(6) {
			m = fitted(m, pick(r, all...))
		}
		got := audit.Faults(m)
		if g, w := drawn(got), drawn(faultsOf(m)); g != w {
			t.Fatalf("P21.1: %.900s: %s, want %s", drawn(m), g, w)
		}
		if _, e := image.Check(m); e == api.OK {
			right++
			if len(got) > 0 {
				t.Fatalf("P21.6: %.900s: image.Check answers OK, Faults %v", drawn(m), got)
			}
		}
		counts[len(got)]++
	}
	for n := range 6 {
		if counts[n] < 100 {
			t.Errorf("only %d have %d faults", counts[n], n)
		}
	}
	if right < 1000 {
		t.Errorf("only %d are right", right)
	}
}

// name tells texts that rise with their numbers.
func name(i int) string { return strconv.Itoa(10000000 + i) }

// TestFaultsBounds: more than there may ever be isn't asked here; all numbers under way at once can be, one more can't.
func TestFaultsBounds(t *testing.T) {
	var m api.Image
	for i := range 65537 {
		m.Sessions = append(m.Sessions, api.Session{Client: name(i)})
	}
	s := &m.Sessions[9]
	for i := range 65537 {
		s.Subs = append(s.Subs, api.Ask{Filter: name(i)})
		s.Window.Queue = append(s.Window.Queue, api.Message{Topic: "q", QoS: 1})
	}
	for i := range maxID {
		s.Window.Flight = append(s.Window.Flight, api.Flight{ID: maxID - i, Released: i%2 == 0})
		if i%2 == 1 {
			s.Window.Flight[i].Msg = api.Message{Topic: "f", QoS: 2}
		}
		s.Inbox = append(s.Inbox, i+1)
	}
	for i := range 1<<20 + 1 {
		m.Retained = append(m.Retained, api.Message{Topic: name(i), Payload: []byte{0}, Retain: true})
	}
	want(t, "P21.1: more than there may be", audit.Faults(m), []api.Fault(nil))
	s.Window.Flight = append(s.Window.Flight, api.Flight{ID: 9, Released: true})
	s.Inbox = append(s.Inbox, maxID+1)
	m.Retained[1<<20].Retain = false
	want(t, "P21.1: one more, one wrong", audit.Faults(m), slices.Concat(at(9, errWindow, errInbox), at(65537+1<<20, errMessage)))
}

// TestFaultsPayloads: how great a payload is isn't asked, though no packet has room for it.
func TestFaultsPayloads(t *testing.T) {
	room := make([]byte, 268435455)
	m := full()
	m.Retained[0].Payload, m.Sessions[0].Window.Queue[0].Payload, m.Sessions[0].Window.Flight[1].Msg.Payload = room, room, room
	want(t, "P21.1: great payloads", len(audit.Faults(m)), 0)
}
