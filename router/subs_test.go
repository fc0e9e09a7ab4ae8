package router_test

import (
	"fmt"
	"math/rand"
	"slices"
	"strings"
	"testing"

	"crier/api"
	"crier/router"
)

// ways tells a router by tries and one by lists.
func ways(c api.Config) map[string]*router.Router {
	t, l := c, c
	t.List, l.List = false, true
	return map[string]*router.Router{"by tries": router.New(t), "by lists": router.New(l)}
}

func TestFirstExample(t *testing.T) {
	for name, r := range ways(api.Config{Cache: 2}) {
		want := func(want string) {
			t.Helper()
			for range 2 {
				if got := told(r.Route("a/b")); got != want {
					t.Errorf("P11.2: %s: Route(a/b): %s, want %s", name, got, want)
				}
			}
		}
		for _, x := range []struct {
			key, filter string
			qos         int
		}{{"x", "a/+", 0}, {"x", "#", 2}, {"y", "a/b", 1}} {
			if e := r.Subscribe(x.key, api.Ask{Filter: x.filter, QoS: x.qos}); e != api.OK {
				t.Errorf("P11.1: %s: Subscribe of %v: %d", name, x, e)
			}
		}
		want(`["x" 2]["y" 1]`)
		if !r.Unsubscribe("x", "#") {
			t.Errorf("P11.1: %s: Unsubscribe(x, #): false", name)
		}
		want(`["x" 0]["y" 1]`)
		if n := r.Leave("y"); n != 1 {
			t.Errorf("P11.1: %s: Leave(y): %d", name, n)
		}
		want(`["x" 0]`)
	}
}

// TestErrors: the numbers of the errors, and of the limits.
func TestErrors(t *testing.T) {
	if api.ErrRouterFilter != 110 || api.ErrRouterQoS != 111 || api.ErrRouterTopic != 112 || api.MaxCache != 1048576 || api.MaxRetained != 1048576 {
		t.Error("the numbers of layer 11 are others")
	}
}

// TestOfNothing: a router that holds nothing yet, and one that holds nothing any more.
func TestOfNothing(t *testing.T) {
	f := newFleet(t, 3, sizes()...)
	nothing := func() {
		t.Helper()
		for _, filter := range []string{"", "a", "#", "+", "a#", "$/#"} {
			f.unsubscribe("x", filter)
			f.unsubscribe("", filter)
		}
		f.leave("x")
		f.leave("")
		for _, s := range append(noTopic(), "a", "/", "$") {
			f.retain(api.Message{Topic: s})
		}
		f.hold(append(noTopic(), fewTopics(2)...), append(noFilter(), fewFilters(2)...))
		for _, s := range f.ships {
			if s.r.Matching("#") == nil || s.r.Matching("") == nil || s.r.Matching("a") == nil {
				t.Errorf("P11.4: %s: an iterator is nil", s.name)
			}
			if a, b := s.r.Nodes(); !s.list && (a != 1 || b != 1) {
				t.Errorf("P11.8: %s: Nodes of nothing: %d, %d", s.name, a, b)
			}
		}
	}
	nothing()
	f.subscribe("x", "a/+", 1)
	f.subscribe("x", "a/b", 1)
	f.subscribe("", "#", 1)
	f.retain(plain("a/b"))
	f.retain(plain("a/c"))
	f.hold(fewTopics(2), nil)
	f.unsubscribe("x", "a/b")
	f.leave("x")
	f.unsubscribe("", "#")
	f.retain(api.Message{Topic: "a/b"})
	f.retain(api.Message{Topic: "a/c"})
	nothing()
}

// TestSubscribe: a new key, and one that is there, with another quality and with the same one.
func TestSubscribe(t *testing.T) {
	f := newFleet(t, 0, 0, 1, 1000)
	filters := []string{"a", "a/b", "/", "#", "+", "+/#", "$", "$/#", "a//+", "\U0010FFFF/\u0001", strings.Repeat("a", maxText), strings.Repeat("+/", maxText/2) + "#"}
	topics := []string{"a", "a/b", "/", "$", "a//b", "\U0010FFFF/\u0001", strings.Repeat("a", maxText)}
	for i, filter := range filters {
		for _, key := range []string{"x", "", "\x001", "\xFF", strings.Repeat("k", maxText+1)} {
			for _, qos := range []int{1, 1, 2, 0, 0, i % 3} {
				f.subscribe(key, filter, qos)
				f.route(topics[i%len(topics)])
			}
		}
		f.hold(topics, nil)
	}
	for _, s := range f.ships {
		if n, _ := s.r.Len(); n != len(filters) {
			t.Errorf("P11.5: %s: Len: %d", s.name, n)
		}
	}
}

// TestSubscribeRefuses: the filter's error is the first; what is refused changes nothing, of what is there or stored neither.
func TestSubscribeRefuses(t *testing.T) {
	r := rand.New(rand.NewSource(111))
	f := newFleet(t, 5, 0, 2, 1000)
	filters, topics := fewFilters(2), fewTopics(2)
	for range 40 {
		f.subscribe(someOf(r, fewKeys()), someOf(r, filters), r.Intn(3))
	}
	f.hold(topics, nil)
	refuse := func(filter string, qos int, want api.Errno) {
		t.Helper()
		for _, s := range f.ships {
			for _, key := range []string{"a", "new", ""} {
				if e := s.r.Subscribe(key, api.Ask{Filter: filter, QoS: qos}); e != want {
					t.Fatalf("P11.1: %s: Subscribe(%q, %.40q at %d): %d, want %d", s.name, key, filter, qos, e, want)
				}
			}
			f.cached(s)
		}
	}
	for _, filter := range noFilter() {
		for _, qos := range append(noQoS(), 0, 1, 2) {
			refuse(filter, qos, api.ErrRouterFilter)
		}
	}
	for _, filter := range append(filters, "c/d/e", strings.Repeat("a", maxText)) {
		for _, qos := range noQoS() {
			refuse(filter, qos, api.ErrRouterQoS)
		}
	}
	f.hold(topics, nil)
}

// TestUnsubscribe: of what is there, of what is gone, and of what never was.
func TestUnsubscribe(t *testing.T) {
	filters := []string{"a/b/c", "a/b/d", "/a", "+/a", "#", "$/#"}
	others := append(noFilter(), "a", "a/b", "a/b/c/d", "a/b/e", "a/+/c", "a/#", "/", "a/b/", "b", "+", "$")
	topics := []string{"a/b/c", "a/b/d", "/a", "a/a", "$/a", "$", "b"}
	for _, order := range eachOrder([]int{0, 3, 4, 5}) {
		f := newFleet(t, 0, 0, 2, 100)
		for i, filter := range filters {
			f.subscribe("x", filter, i%3)
			f.subscribe("", filter, 2-i%3)
			if i%2 == 0 {
				f.subscribe("y", filter, 1)
			}
		}
		f.hold(topics, nil)
		for _, filter := range others {
			f.unsubscribe("x", filter)
		}
		f.unsubscribe("y", filters[1])
		f.unsubscribe("z", filters[0])
		f.unsubscribe(filters[0], "x")
		for _, i := range order {
			for _, key := range []string{"x", "y", ""} {
				f.unsubscribe(key, filters[i])
				f.hold(topics, nil)
				f.unsubscribe(key, filters[i])
			}
		}
		f.subscribe("x", filters[order[0]], 1)
		f.hold(topics, nil)
	}
}

// TestLeave: a key that is at some filters, alone or with others; at all; at none; and one that has left.
func TestLeave(t *testing.T) {
	filters, topics := fewFilters(2), fewTopics(2)
	for _, keys := range eachOrder([]string{"x", "y", ""}) {
		f := newFleet(t, 0, 0, 3, 100)
		for i, filter := range filters {
			f.subscribe("x", filter, i%3)
			if i%2 == 0 {
				f.subscribe("", filter, i%3)
			}
		}
		f.unsubscribe("x", filters[0])
		f.subscribe("y", "a/b/c/d", 2)
		for _, key := range append(keys, "none", keys[0]) {
			f.hold(topics, nil)
			f.leave(key)
			f.hold(topics, nil)
			f.leave(key)
		}
		for _, s := range f.ships {
			if n, _ := s.r.Len(); n != 0 {
				t.Errorf("P11.5: %s: Len when all have left: %d", s.name, n)
			}
		}
	}
}

// TestRouteByOneFilter: each filter alone, against each topic.
func TestRouteByOneFilter(t *testing.T) {
	topics := append(fewTopics(3), noTopic()[:7]...)
	for _, filter := range fewFilters(2) {
		f := newFleet(t, 0, 0, 1000)
		f.subscribe("x", filter, 1)
		f.hold(topics, nil)
	}
}

// TestRouteTellsTheGreatest: whichever of a key's filters it stands at, and whenever that one was laid down, be the answer stored or not.
func TestRouteTellsTheGreatest(t *testing.T) {
	r := rand.New(rand.NewSource(112))
	matching := []string{"a/b", "a/+", "a/#", "+/b", "+/+", "#", "+/#", "a/b/#"}
	for _, best := range matching {
		f := newFleet(t, 0, 0, 1, 9)
		f.subscribe("one", "a/b/+", 2)
		f.subscribe("none", "a", 2)
		for _, filter := range shuffled(r, matching) {
			f.subscribe("one", filter, map[bool]int{true: 2, false: 1}[filter == best])
			f.subscribe("none", filter, 0)
			f.subscribe("own "+filter, filter, r.Intn(3))
			f.route("a/b")
		}
		want := func(qos int) {
			t.Helper()
			f.route("a/b")
			for _, s := range f.ships {
				got := s.r.Route("a/b")
				if !slices.Contains(got, api.Entry{Key: "one", QoS: qos}) || !slices.Contains(got, api.Entry{Key: "none", QoS: 0}) || len(got) != 2+len(matching) {
					t.Fatalf("P11.2: %s: Route: %s", s.name, told(got))
				}
			}
			f.hold([]string{"a/b", "a", "b", "a/b/c", "a/b"}, nil)
		}
		want(2)
		f.subscribe("one", best, 0)
		want(1)
		for _, filter := range matching {
			if filter != best {
				f.unsubscribe("one", filter)
			}
		}
		want(0)
		f.subscribe("one", "a/c", 2)
		want(0)
		f.subscribe("one", best, 2)
		want(2)
	}
}

// TestKeysInOrder: byte by byte, whatever the order in which they came.
func TestKeysInOrder(t *testing.T) {
	r := rand.New(rand.NewSource(113))
	for range 20 {
		f := newFleet(t, 0, 0, 2)
		for _, key := range shuffled(r, fewKeys()) {
			f.subscribe(key, "a/+", r.Intn(3))
		}
		for _, key := range shuffled(r, fewKeys()) {
			f.subscribe(key, someOf(r, []string{"#", "a/b"}), r.Intn(3))
		}
		for _, s := range f.ships {
			for range 2 {
				if got := keysOf(s.r.Route("a/b")); !slices.Equal(got, fewKeys()) {
					t.Fatalf("P11.2: %s: keys of Route: %q", s.name, got)
				}
			}
		}
	}
}

func TestRouteOfNoTopic(t *testing.T) {
	f := newFleet(t, 0, sizes()...)
	for i, filter := range append(fewFilters(2), strings.Repeat("a", maxText), strings.Repeat("+/", maxText/2)+"#") {
		f.subscribe(fmt.Sprint(i%5), filter, 1)
	}
	for _, text := range noTopic() {
		for _, s := range f.ships {
			if got := s.r.Route(text); len(got) != 0 || s.r.Cached() != 0 {
				t.Errorf("P11.2: %s: Route(%.20q): %s, Cached %d", s.name, text, told(got), s.r.Cached())
			}
		}
	}
	f.hold(append(fewTopics(1), noTopic()...), nil)
}

func TestRouteOfHiddenTopics(t *testing.T) {
	for name, r := range ways(api.Config{Cache: 3}) {
		for _, filter := range []string{"#", "+", "+/#", "+/b", "+/+", "/#", "$", "$/b", "$/+", "$/#", "$a/#", "$a/+", "a/#"} {
			r.Subscribe(filter, api.Ask{Filter: filter, QoS: 1})
		}
		for text, want := range map[string][]string{
			"$": {"$", "$/#"}, "$/b": {"$/#", "$/+", "$/b"}, "$a": {"$a/#"}, "$a/b": {"$a/#", "$a/+"}, "$b/b": nil,
			"a/$": {"#", "+/#", "+/+", "a/#"}, "/$": {"#", "+/#", "+/+", "/#"},
		} {
			for range 2 {
				if got := keysOf(r.Route(text)); !slices.Equal(got, want) {
					t.Errorf("P11.2: %s: Route(%q): %q, want %q", name, text, got, want)
				}
			}
		}
	}
}

func TestRouteAtTheEdges(t *testing.T) {
	f := newFleet(t, 0, 0, 2, 100)
	deep := strings.Repeat("/", maxText)
	for i, filter := range []string{deep, deep[:maxText-2] + "/#", deep[:maxText-1] + "+", strings.Repeat("+/", maxText/2) + "+", strings.Repeat("+/", maxText/2) + "#", "#", "/#", strings.Repeat("a", maxText)} {
		f.subscribe(fmt.Sprint(i), filter, i%3)
	}
	f.hold([]string{deep, deep[1:], deep[2:], deep[:maxText/2], deep[:maxText-1] + "a", strings.Repeat("a", maxText), strings.Repeat("a", maxText-1), deep + "/"}, nil)
}

// overwriteEntries writes over entries and over their spare room.
func overwriteEntries(l []api.Entry) {
	l = l[:cap(l)]
	for i := range l {
		l[i] = api.Entry{Key: "spoilt", QoS: 99}
	}
}

// TestRouteWrittenOver: rule 3: what was handed out is the caller's, its spare room too: the one that was laid down as well as those that came from the cache.
func TestRouteWrittenOver(t *testing.T) {
	r := rand.New(rand.NewSource(114))
	f := newFleet(t, 0, sizes()...)
	for range 150 {
		f.subscribe(someOf(r, fewKeys()), someOf(r, fewFilters(2)), r.Intn(3))
	}
	topics := fewTopics(2)
	for _, s := range f.ships {
		var answers [][]api.Entry
		for range 4 {
			for _, text := range topics {
				answers = append(answers, s.r.Route(text))
			}
		}
		check := func(when string) {
			t.Helper()
			for i, got := range answers {
				if want := told(f.m.route(topics[i%len(topics)])); told(got) != want {
					t.Fatalf("P11.2: %s: %s: answer %d: %s, want %s", s.name, when, i, told(got), want)
				}
			}
		}
		check("as told")
		for range 2 {
			for _, text := range topics {
				overwriteEntries(s.r.Route(text))
			}
		}
		check("others written over")
		for i, got := range answers {
			if want := told(f.m.route(topics[i%len(topics)])); told(got) != want {
				t.Fatalf("P11.2: %s: answer %d is touched by another one: %s, want %s", s.name, i, told(got), want)
			}
			overwriteEntries(got)
		}
		answers = nil
		for range 2 {
			for _, text := range topics {
				answers = append(answers, s.r.Route(text))
			}
		}
		check("written over")
		for _, key := range fewKeys() {
			s.r.Leave(key)
		}
		for _, text := range topics {
			s.r.Route(text)
		}
		check("all having left")
	}
}

// TestAppended: what is put into an answer's spare room shows in no other one.
func TestAppended(t *testing.T) {
	for name, r := range ways(api.Config{Cache: 1}) {
		for i := range 5 {
			r.Subscribe(fmt.Sprint(i), api.Ask{Filter: "a"})
			want := told(r.Route("a"))
			first, second := r.Route("a"), r.Route("a")
			first, second = append(first, api.Entry{Key: "1"}), append(second, api.Entry{Key: "2"})
			if told(first) != want+`["1" 0]` || told(second) != want+`["2" 0]` || told(r.Route("a")) != want {
				t.Errorf("P11.2: %s: %s, %s, %s", name, told(first), told(second), told(r.Route("a")))
			}
		}
	}
}

func TestApart(t *testing.T) {
	for _, list := range []bool{false, true} {
		c := api.Config{List: list, Cache: 2, Retained: 2}
		a, b := router.New(c), router.New(c)
		a.Subscribe("x", api.Ask{Filter: "a/b", QoS: 1})
		a.Retain(plain("a/b"))
		a.Route("a/b")
		filters, messages := b.Len()
		nodes, topics := b.Nodes()
		if filters+messages+b.Cached() != 0 || nodes+topics > 2 || len(b.Route("a/b")) != 0 || lines(b.Matching("#")) != "" || len(b.Retained()) != 0 || b.Unsubscribe("x", "a/b") || b.Leave("x") != 0 {
			t.Errorf("P11.1: what is told to one router shows in another one (List %t)", list)
		}
		if ok, e := b.Retain(api.Message{Topic: "a/b"}); ok || e != api.OK {
			t.Errorf("P11.3: what is told to one router shows in another one (List %t)", list)
		}
		b.Subscribe("y", api.Ask{Filter: "#", QoS: 2})
		if got := told(a.Route("a/b")); got != `["x" 1]` {
			t.Errorf("P11.1: what is told to one router shows in another one (List %t): %s", list, got)
		}
	}
}

// TestOfTheConfig: List, Cache and Retained count, and nothing else.
func TestOfTheConfig(t *testing.T) {
	for _, x := range []api.Config{
		{},
		{Window: -1, Queue: -1, Subs: -1, Sessions: -1, Most: -1, Patience: -1},
		{Window: 1, Queue: 1, Subs: 1, Sessions: 1, Most: 2, Patience: 1, Users: []api.User{{Name: "u", Word: "w"}}},
		{Window: 1 << 40, Queue: 1 << 40, Subs: 1 << 40, Sessions: 1 << 40, Most: 1 << 40, Patience: 1 << 40},
	} {
		f := &fleet{t: t, m: newModel(2)}
		for _, list := range []bool{false, true} {
			x.List, x.Cache, x.Retained = list, 2, 2
			f.add(x)
		}
		for i := range 5 {
			f.subscribe("x", fmt.Sprint(i), 1)
			f.subscribe(fmt.Sprint(i), "+", 2)
			f.retain(plain(fmt.Sprint(i)))
			f.hold([]string{"0", "1", "2", "3"}, []string{"#"})
		}
	}
}
