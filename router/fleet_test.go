package router_test

import (
	"fmt"
	"maps"
	"math/rand"
	"slices"
	"testing"

	"crier/api"
	"crier/router"
	"crier/topic"
)

// ship: a router, and what its cache is to hold.
type ship struct {
	name   string
	r      *router.Router
	list   bool
	room   int
	stored []answer // the one used last first
}

// answer: a topic and what Route told of it.
type answer struct{ topic, entries string }

// fleet: routers by tries with caches of several sizes, and by lists, and a model, all told the same.
type fleet struct {
	t     *testing.T
	m     *model
	ships []*ship
}

// sizes: of caches.
func sizes() []int { return []int{-1 << 63, -1, 0, 1, 2, 3, 8, 1000, 1 << 20, 1<<20 + 1, 1<<63 - 1} }

// newFleet makes routers of which so many messages may be kept.
func newFleet(t *testing.T, retained int, caches ...int) *fleet {
	f := &fleet{t: t, m: newModel(retained)}
	for _, size := range caches {
		f.add(api.Config{Cache: size, Retained: retained})
	}
	f.add(api.Config{List: true, Cache: 3, Retained: retained})
	f.add(api.Config{List: true, Retained: retained})
	f.stand()
	return f
}

func (f *fleet) add(c api.Config) {
	s := &ship{name: fmt.Sprintf("by tries, cache %d", c.Cache), r: router.New(c), room: min(max(c.Cache, 0), 1<<20)}
	if c.List {
		s.name, s.list, s.room = fmt.Sprintf("by lists, cache %d", c.Cache), true, 0
	}
	f.ships = append(f.ships, s)
}

func (f *fleet) subscribe(key, filter string, qos int) {
	f.t.Helper()
	a := api.Ask{Filter: filter, QoS: qos}
	want := f.m.subscribe(key, a)
	for _, s := range f.ships {
		if got := s.r.Subscribe(key, a); got != want {
			f.t.Fatalf("P11.1: %s: Subscribe(%.40q, %.40q at %d): %d, want %d", s.name, key, filter, qos, got, want)
		}
		f.changed(s)
	}
	f.stand()
}

func (f *fleet) unsubscribe(key, filter string) {
	f.t.Helper()
	want := f.m.unsubscribe(key, filter)
	for _, s := range f.ships {
		if got := s.r.Unsubscribe(key, filter); got != want {
			f.t.Fatalf("P11.1: %s: Unsubscribe(%.40q, %.40q): %t, want %t", s.name, key, filter, got, want)
		}
		f.changed(s)
	}
	f.stand()
}

func (f *fleet) leave(key string) {
	f.t.Helper()
	want := f.m.leave(key)
	for _, s := range f.ships {
		if got := s.r.Leave(key); got != want {
			f.t.Fatalf("P11.1: %s: Leave(%.40q): %d, want %d", s.name, key, got, want)
		}
		f.changed(s)
	}
	f.stand()
}

// changed takes those out of what a cache is to hold that must be gone. Others may be gone too: where it can't be seen which, all are made to go.
func (f *fleet) changed(s *ship) {
	f.t.Helper()
	ahead := len(s.stored)
	left := slices.DeleteFunc(slices.Clone(s.stored), func(a answer) bool { return told(f.m.route(a.topic)) != a.entries })
	got := s.r.Cached()
	switch {
	case got < 0 || got > len(left):
		f.t.Fatalf("P11.6: %s: Cached is %d behind a change, %d ahead of it; %d of them are others by it", s.name, got, ahead, ahead-len(left))
	case got == len(left):
		s.stored = left
	case got == 0:
		s.stored = nil
	default:
		f.empty(s)
	}
}

// empty makes all topics' answers others, and others again.
func (f *fleet) empty(s *ship) {
	f.t.Helper()
	const nobody = "one who comes and goes"
	for _, all := range []string{"#", "$/#", "$a/#"} {
		s.r.Subscribe(nobody, api.Ask{Filter: all})
	}
	if got := s.r.Cached(); got != 0 {
		f.t.Fatalf("P11.6: %s: Cached is %d, all answers being others", s.name, got)
	}
	s.r.Leave(nobody)
	s.stored = nil
}

func (f *fleet) route(text string) {
	f.t.Helper()
	want := told(f.m.route(text))
	for _, s := range f.ships {
		if got := told(s.r.Route(text)); got != want {
			f.t.Fatalf("P11.2: %s: Route(%.40q): %s, want %s", s.name, text, got, want)
		}
		s.use(answer{text, want})
		f.cached(s)
	}
}

// use makes a topic's answer the one used last.
func (s *ship) use(a answer) {
	if s.room == 0 || topic.Check(a.topic) != api.OK {
		return
	}
	at := slices.IndexFunc(s.stored, func(b answer) bool { return b.topic == a.topic })
	if at >= 0 {
		s.stored = slices.Delete(s.stored, at, at+1)
	}
	s.stored = slices.Insert(s.stored, 0, a)
	s.stored = s.stored[:min(len(s.stored), s.room)]
}

func (f *fleet) cached(s *ship) {
	f.t.Helper()
	if got := s.r.Cached(); got != len(s.stored) {
		f.t.Fatalf("P11.6: %s: Cached: %d, want %d", s.name, got, len(s.stored))
	}
}

func (f *fleet) retain(one api.Message) {
	f.t.Helper()
	want, no := f.m.retain(one)
	for _, s := range f.ships {
		if got, e := s.r.Retain(one); got != want || e != no {
			f.t.Fatalf("P11.3: %s: Retain(%.60s): %t, %d; want %t, %d", s.name, line(one), got, e, want, no)
		}
	}
	f.stand()
}

func (f *fleet) matching(filter string) {
	f.t.Helper()
	want := f.m.matching(filter)
	for _, s := range f.ships {
		if got := lines(s.r.Matching(filter)); got != want {
			f.t.Fatalf("P11.4: %s: Matching(%.40q):\n%.400s\nwant:\n%.400s", s.name, filter, got, want)
		}
	}
}

// stand holds what each router tells of itself against the model.
func (f *fleet) stand() {
	f.t.Helper()
	want := f.m.retained()
	for _, s := range f.ships {
		filters, messages := s.r.Len()
		if filters != len(f.m.subs) || messages != len(f.m.kept) {
			f.t.Fatalf("P11.5: %s: Len: %d, %d; want %d, %d", s.name, filters, messages, len(f.m.subs), len(f.m.kept))
		}
		if got := lines(slices.Values(s.r.Retained())); got != want {
			f.t.Fatalf("P11.4: %s: Retained:\n%.400s\nwant:\n%.400s", s.name, got, want)
		}
		f.cached(s)
		f.nodes(s)
	}
}

func (f *fleet) nodes(s *ship) {
	f.t.Helper()
	a, b := s.r.Nodes()
	if s.list {
		if a != 0 || b != 0 {
			f.t.Fatalf("P11.6: %s: Nodes: %d, %d", s.name, a, b)
		}
		return
	}
	if a != f.m.filters.Nodes() || b != f.m.topics.Nodes() {
		f.t.Fatalf("P11.6: %s: Nodes: %d, %d; want %d, %d", s.name, a, b, f.m.filters.Nodes(), f.m.topics.Nodes())
	}
	if a > 2*len(f.m.subs)+1 || b > 2*len(f.m.kept)+1 {
		f.t.Fatalf("P11.8: %s: Nodes: %d, %d of %d filters, %d messages", s.name, a, b, len(f.m.subs), len(f.m.kept))
	}
}

// shapes holds each router's Shapes against the tries of the model.
func (f *fleet) shapes() {
	f.t.Helper()
	for _, s := range f.ships {
		a, b := s.r.Shapes()
		x, y := f.m.filters.Shape(), f.m.topics.Shape()
		if s.list {
			x, y = api.Shape{}, api.Shape{}
		}
		if drawn(a) != drawn(x) || drawn(b) != drawn(y) {
			f.t.Fatalf("P11.6: %s: Shapes:\n%.400s\n%.400s\nwant:\n%.400s\n%.400s", s.name, drawn(a), drawn(b), drawn(x), drawn(y))
		}
		if n, o := s.r.Nodes(); !s.list && (n != counted(a) || o != counted(b)) {
			f.t.Fatalf("P11.6: %s: Nodes: %d, %d; Shapes have %d, %d", s.name, n, o, counted(a), counted(b))
		}
	}
}

// hold asks each router of these topics, each twice, and filters, and how it stands.
func (f *fleet) hold(topics, filters []string) {
	f.t.Helper()
	f.stand()
	f.shapes()
	for _, s := range topics {
		f.route(s)
		f.route(s)
	}
	for _, filter := range filters {
		f.matching(filter)
	}
	f.stand()
}

// step tells all routers one thing: much of it of what is there.
func (f *fleet) step(r *rand.Rand, filters, topics, keys []string) {
	f.t.Helper()
	filter, key := someOf(r, filters), someOf(r, keys)
	if there := slices.Sorted(maps.Keys(f.m.subs)); len(there) > 0 && r.Intn(2) == 0 {
		filter = someOf(r, there)
		key = someOf(r, byKey(f.m.subs[filter])).Key
	}
	s := someOf(r, topics)
	if there := slices.Sorted(maps.Keys(f.m.kept)); len(there) > 0 && r.Intn(2) == 0 {
		s = someOf(r, there)
	}
	switch n := r.Intn(40); {
	case n < 10:
		f.subscribe(key, filter, r.Intn(3))
	case n < 14:
		f.unsubscribe(key, filter)
	case n < 15:
		f.leave(key)
	case n < 24:
		f.route(s)
	case n < 33:
		f.retain(some(r, s))
	case n < 36:
		f.matching(filter)
	default:
		f.wrong(r, key, filter, s)
	}
}

// wrong tells all routers something that is refused, or does nothing.
func (f *fleet) wrong(r *rand.Rand, key, filter, s string) {
	f.t.Helper()
	m := some(r, s)
	m.QoS = someOf(r, noQoS())
	switch r.Intn(7) {
	case 0:
		f.subscribe(key, filter, m.QoS)
	case 1:
		f.subscribe(key, someOf(r, noFilter()), r.Intn(5)-1)
	case 2:
		f.unsubscribe(key, someOf(r, noFilter()))
	case 3:
		f.route(someOf(r, noTopic()))
	case 4:
		f.retain(m)
	case 5:
		m.Topic = someOf(r, noTopic())
		f.retain(m)
	default:
		f.matching(someOf(r, noFilter()))
	}
}
