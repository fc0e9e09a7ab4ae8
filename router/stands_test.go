package router_test

import (
	"fmt"
	"math/rand"
	"runtime"
	"strings"
	"testing"

	"crier/api"
	"crier/router"
)

// TestNodesAndShapes: behind each step how both tries stand; by lists nothing.
func TestNodesAndShapes(t *testing.T) {
	f := newFleet(t, 9, 0, 1)
	want := func(filters, topics int) {
		t.Helper()
		f.shapes()
		for _, s := range f.ships {
			a, b := s.r.Nodes()
			if s.list && (a != 0 || b != 0) || !s.list && (a != filters || b != topics) {
				t.Fatalf("P11.6: %s: Nodes: %d, %d; want %d, %d", s.name, a, b, filters, topics)
			}
		}
	}
	want(1, 1)
	f.subscribe("x", "a/b/c", 1)
	want(2, 1)
	f.subscribe("y", "a/b/d", 2)
	want(4, 1)
	f.subscribe("x", "a/b", 0)
	want(4, 1)
	f.route("a/b/c")
	f.retain(plain("a/b"))
	want(4, 2)
	f.retain(plain("a/c"))
	want(4, 4)
	f.retain(plain("$a"))
	want(4, 5)
	f.unsubscribe("y", "a/b/d")
	want(3, 5)
	f.subscribe("y", "a/b#", 1)
	f.subscribe("y", "a/c", 3)
	f.retain(plain("a/+"))
	want(3, 5)
	f.retain(api.Message{Topic: "a/c"})
	want(3, 3)
	f.leave("x")
	want(1, 3)
	f.retain(api.Message{Topic: "a/b"})
	f.retain(api.Message{Topic: "$a"})
	want(1, 1)
}

// TestShapesWrittenOver: rule 3: a shape is the caller's.
func TestShapesWrittenOver(t *testing.T) {
	f := newFleet(t, 9, 0, 1)
	for _, s := range fewTopics(1) {
		f.subscribe("x", s, 1)
		f.subscribe("y", s+"/+/b", 2)
		f.retain(plain(s + "/a"))
		f.retain(plain(s))
	}
	var spoil func(s api.Shape)
	spoil = func(s api.Shape) {
		for i := range s.Levels {
			s.Levels[i] = "spoilt"
		}
		overwriteEntries(s.Entries)
		for i, kid := range s.Kids {
			spoil(kid)
			s.Kids[i] = api.Shape{Here: true}
		}
	}
	for _, s := range f.ships {
		a, b := s.r.Shapes()
		spoil(a)
		spoil(b)
	}
	f.hold(fewTopics(2), fewFilters(2))
}

// TestCached: of a router by tries with so much room: of a topic that is there, of one that isn't, of what is none, of more than there is room for; and of one by lists nothing.
func TestCached(t *testing.T) {
	for _, room := range []int{-1 << 63, -1, 0, 1, 2, 3, 1 << 20, 1<<20 + 1, 1<<63 - 1} {
		for _, list := range []bool{false, true} {
			r := router.New(api.Config{Cache: room, List: list, Retained: 5})
			may := min(max(room, 0), 5)
			if list {
				may = 0
			}
			want := func(want int, when string) {
				t.Helper()
				if got := r.Cached(); got != want {
					t.Fatalf("P11.6: Cache %d, List %t: Cached %s: %d, want %d", room, list, when, got, want)
				}
			}
			want(0, "at first")
			r.Subscribe("x", api.Ask{Filter: "a/+"})
			want(0, "behind Subscribe")
			for i, s := range []string{"a", "b", "a/b", "$", strings.Repeat("a", maxText)} {
				r.Route(s)
				want(min(i+1, may), "behind Route of a new one")
				r.Route(s)
				want(min(i+1, may), "behind Route of one that is there")
				for _, no := range noTopic() {
					r.Route(no)
				}
				want(min(i+1, may), "behind Route of none")
			}
			r.Retain(plain("a"))
			r.Retain(plain("a/b"))
			r.Retain(plain("+"))
			r.Retain(api.Message{Topic: "a"})
			want(may, "behind Retain")
			for range r.Matching("#") {
				r.Retained()
			}
			r.Len()
			r.Nodes()
			r.Shapes()
			want(may, "behind Matching, Retained, Len, Nodes, Shapes")
			r.Subscribe("x", api.Ask{Filter: "a#"})
			r.Subscribe("x", api.Ask{Filter: "a/+", QoS: 3})
			want(may, "behind Subscribe that is refused")
		}
	}
}

// TestCachedBehindAChange: what is another answer by it is gone.
func TestCachedBehindAChange(t *testing.T) {
	topics := []string{"a", "a/b", "a/c", "b", "$a", "$a/b"}
	for _, x := range []struct {
		name string
		do   func(r *router.Router)
		gone []string
	}{
		{"Subscribe(y, #)", func(r *router.Router) { r.Subscribe("y", api.Ask{Filter: "#"}) }, []string{"a", "a/b", "a/c", "b"}},
		{"Subscribe(y, a/+)", func(r *router.Router) { r.Subscribe("y", api.Ask{Filter: "a/+"}) }, []string{"a/b", "a/c"}},
		{"Subscribe(y, a/#)", func(r *router.Router) { r.Subscribe("y", api.Ask{Filter: "a/#"}) }, []string{"a", "a/b", "a/c"}},
		{"Subscribe(y, a/b)", func(r *router.Router) { r.Subscribe("y", api.Ask{Filter: "a/b"}) }, []string{"a/b"}},
		{"Subscribe(y, $a/#)", func(r *router.Router) { r.Subscribe("y", api.Ask{Filter: "$a/#"}) }, []string{"$a", "$a/b"}},
		{"Subscribe(x, a/+), greater", func(r *router.Router) { r.Subscribe("x", api.Ask{Filter: "a/+", QoS: 2}) }, []string{"a/b", "a/c"}},
		{"Subscribe(x, a/+), less", func(r *router.Router) { r.Subscribe("x", api.Ask{Filter: "a/+", QoS: 0}) }, []string{"a/b", "a/c"}},
		{"Subscribe(x, a/b), greater", func(r *router.Router) { r.Subscribe("x", api.Ask{Filter: "a/b", QoS: 2}) }, []string{"a/b"}},
		{"Subscribe(x, a/b), less", func(r *router.Router) { r.Subscribe("x", api.Ask{Filter: "a/b", QoS: 0}) }, nil},
		{"Subscribe(x, a/+), the same", func(r *router.Router) { r.Subscribe("x", api.Ask{Filter: "a/+", QoS: 1}) }, nil},
		{"Subscribe(y, c/d)", func(r *router.Router) { r.Subscribe("y", api.Ask{Filter: "c/d"}) }, nil},
		{"Unsubscribe(x, a/+)", func(r *router.Router) { r.Unsubscribe("x", "a/+") }, []string{"a/b", "a/c"}},
		{"Unsubscribe(z, b)", func(r *router.Router) { r.Unsubscribe("z", "b") }, []string{"b"}},
		{"Unsubscribe(z, $a/+)", func(r *router.Router) { r.Unsubscribe("z", "$a/+") }, []string{"$a/b"}},
		{"Unsubscribe(x, b)", func(r *router.Router) { r.Unsubscribe("x", "b") }, nil},
		{"Leave(x)", func(r *router.Router) { r.Leave("x") }, []string{"a/b", "a/c"}},
		{"Leave(z)", func(r *router.Router) { r.Leave("z") }, []string{"b", "$a/b"}},
		{"Leave(y)", func(r *router.Router) { r.Leave("y") }, nil},
	} {
		for _, room := range []int{len(topics), 1000} {
			r := router.New(api.Config{Cache: room})
			r.Subscribe("x", api.Ask{Filter: "a/+", QoS: 1})
			r.Subscribe("z", api.Ask{Filter: "b", QoS: 1})
			r.Subscribe("z", api.Ask{Filter: "$a/+", QoS: 1})
			ahead := map[string]string{}
			for _, s := range topics {
				ahead[s] = told(r.Route(s))
			}
			x.do(r)
			if got := r.Cached(); got > len(topics)-len(x.gone) || got < 0 {
				t.Errorf("P11.6: Cached behind %s: %d of %d, %d being others", x.name, got, len(topics), len(x.gone))
			}
			others := 0
			for _, s := range topics {
				if told(r.Route(s)) != ahead[s] {
					others++
				}
			}
			if others != len(x.gone) || r.Cached() != len(topics) {
				t.Errorf("P11.2: %s: %d answers are others, not %d; Cached %d", x.name, others, len(x.gone), r.Cached())
			}
		}
	}
}

// TestTheOneUnusedLongestGoes: what is there shows by what a change of its answer takes away.
func TestTheOneUnusedLongestGoes(t *testing.T) {
	for _, x := range []struct {
		room  int
		route string
		there string
	}{
		{1, "a", "a"}, {1, "ab", "b"}, {1, "aba", "a"}, {2, "ab", "ab"}, {2, "abc", "bc"}, {2, "abac", "ac"}, {2, "abbc", "bc"},
		{3, "abcd", "bcd"}, {3, "abcad", "acd"}, {3, "abcbad", "abd"}, {3, "abcabcd", "bcd"}, {3, "abcdabc", "abc"}, {3, "abca+d#", "acd"},
	} {
		for _, topic := range x.there {
			r := router.New(api.Config{Cache: x.room})
			for _, s := range x.route {
				r.Route(string(s))
			}
			r.Subscribe("x", api.Ask{Filter: string(topic)})
			if got := r.Cached(); got > len(x.there)-1 {
				t.Errorf("P11.6: room for %d, Route of each of %q: %c isn't there: Cached %d", x.room, x.route, topic, got)
			}
		}
	}
}

// TestMaxCache: no more than MaxCache, whatever the setup says; none of them goes ahead of that.
func TestMaxCache(t *testing.T) {
	const most = 1 << 20
	r := router.New(api.Config{Cache: most + 2})
	r.Subscribe("x", api.Ask{Filter: "7"})
	for i := range most + 2 {
		r.Route(fmt.Sprint(i))
		if got := r.Cached(); got != min(i+1, most) {
			t.Fatalf("P11.6: %d topics: Cached %d", i+1, got)
		}
	}
	if got := told(r.Route("7")); got != `["x" 0]` || r.Cached() != most {
		t.Errorf("P11.6: Route: %s, Cached %d", got, r.Cached())
	}
}

// TestBounds: P11.8: at every moment of a life in which all filters and topics come, and go again in another order.
func TestBounds(t *testing.T) {
	r := rand.New(rand.NewSource(117))
	f := newFleet(t, 1000, 0)
	filters, topics := fewFilters(3), fewTopics(3)
	f.ships = f.ships[:1]
	for range 2 {
		for _, filter := range shuffled(r, filters) {
			f.subscribe("x", filter, 1)
		}
		for _, filter := range shuffled(r, filters) {
			f.unsubscribe("x", filter)
		}
		for _, s := range shuffled(r, topics) {
			f.retain(plain(s))
		}
		for _, s := range shuffled(r, topics) {
			f.retain(api.Message{Topic: s})
		}
	}
	if a, b := f.ships[0].r.Nodes(); a != 1 || b != 1 {
		t.Errorf("P11.8: Nodes of nothing: %d, %d", a, b)
	}
}

// TestSameCalls: P11.7: long lives, behind each step of which all routers tell the same.
func TestSameCalls(t *testing.T) {
	r := rand.New(rand.NewSource(118))
	filters, topics := fewFilters(3), fewTopics(3)
	for life := range 30 {
		f := newFleet(t, life%12-1, sizes()...)
		few, some := shuffled(r, filters)[:4+r.Intn(20)], shuffled(r, topics)[:4+r.Intn(20)]
		keys := shuffled(r, fewKeys())[:2+life%8]
		for range 150 {
			f.step(r, few, some, keys)
			f.shapes()
		}
		f.hold(some, few)
	}
}

// TestSameAnswersAlways: P11.7: as much is stored as may be: each topic is asked for behind each change.
func TestSameAnswersAlways(t *testing.T) {
	r := rand.New(rand.NewSource(119))
	filters, topics := fewFilters(2), fewTopics(2)
	f := newFleet(t, 10, 0, 1, 5, 1000)
	for range 300 {
		switch r.Intn(5) {
		case 0:
			f.unsubscribe(someOf(r, fewKeys()), someOf(r, filters))
		case 1:
			f.leave(someOf(r, fewKeys()))
		default:
			f.subscribe(someOf(r, fewKeys()), someOf(r, filters), r.Intn(3))
		}
		for _, s := range topics {
			f.route(s)
		}
	}
}

// held tells how many bytes are in use.
func held() int {
	runtime.GC()
	var m runtime.MemStats
	runtime.ReadMemStats(&m)
	return int(m.HeapAlloc)
}

// TestNothingElseIsKept: neither what is gone, nor the long texts of which what is kept is a piece.
func TestNothingElseIsKept(t *testing.T) {
	const big, many = 1 << 20, 60
	for _, c := range []api.Config{{Retained: many}, {Retained: many, Cache: many}, {Retained: many, List: true}} {
		before := held()
		r := router.New(c)
		for i := range many {
			text := strings.Repeat(string(rune('A'+i)), big)
			r.Retain(api.Message{Topic: text[:3], Payload: []byte(text)})
			r.Subscribe(text, api.Ask{Filter: "#"})
			r.Route(text[:4])
			r.Unsubscribe(text, "#")
			r.Subscribe(text[:6], api.Ask{Filter: text[:5]})
			r.Retain(api.Message{Topic: text[:3], Payload: []byte(text)[:4]})
		}
		for i := range many {
			r.Route(strings.Repeat(string(rune('A'+i)), big)[:5])
		}
		if got := held() - before; got > 8*big {
			t.Errorf("P11.6: %d bytes are held (Cache %d, List %t)", got, c.Cache, c.List)
		}
		if filters, messages := r.Len(); filters != many || messages != many || r.Cached() != c.Cache {
			t.Errorf("P11.5: Len: %d, %d; Cached: %d", filters, messages, r.Cached())
		}
		runtime.KeepAlive(r)
	}
}
