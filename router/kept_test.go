package router_test

import (
	"fmt"
	"math/rand"
	"slices"
	"strings"
	"testing"

	"crier/api"
	"crier/router"
)

func TestSecondExample(t *testing.T) {
	for name, r := range ways(api.Config{Retained: 1}) {
		for i, x := range []struct {
			topic, payload string
			want           bool
		}{{"a", "1", true}, {"b", "1", false}, {"a", "2", true}, {"a", "", true}, {"a", "", false}} {
			if got, e := r.Retain(api.Message{Topic: x.topic, Payload: []byte(x.payload)}); got != x.want || e != api.OK {
				t.Errorf("P11.3: %s: step %d: %t, %d", name, i, got, e)
			}
		}
	}
}

// TestRetain: each field of a message, whatever the one ahead of it was: with another payload, with the same one, without any, with the retain mark or not.
func TestRetain(t *testing.T) {
	f := newFleet(t, 100, 0, 2)
	topics := []string{"a", "a/b", "/", "$", "$a/b", "a//b", strings.Repeat("a", maxText), strings.Repeat("/", maxText), "\U0010FFFF/\u0001"}
	for _, s := range topics {
		for _, payload := range [][]byte{nil, []byte("1"), []byte("1"), {}, nil, {0}, []byte("22"), []byte(strings.Repeat("p", 1<<12))} {
			for qos := range 3 {
				for _, retain := range []bool{true, false} {
					f.retain(api.Message{Topic: s, Payload: payload, QoS: qos, Retain: retain})
				}
			}
		}
	}
	for _, s := range f.ships {
		for _, m := range s.r.Retained() {
			if !m.Retain || m.QoS != 2 || len(m.Payload) != 1<<12 {
				t.Errorf("P11.3: %s: kept: %.60s", s.name, line(m))
			}
		}
	}
	f.hold(nil, []string{"#", "+", "$/#", "$a/+", "/#"})
}

// TestRetainRefuses: the topic's error is the first; what is refused changes nothing: neither with a payload nor without one, be there room or not.
func TestRetainRefuses(t *testing.T) {
	topics := fewTopics(2)
	for _, retained := range []int{0, 20, len(topics)} {
		f := newFleet(t, retained, 0, 100)
		for _, s := range topics {
			f.retain(plain(s))
		}
		f.route("a/b")
		refuse := func(m api.Message, want api.Errno) {
			t.Helper()
			for _, payload := range [][]byte{[]byte("new"), nil, {}} {
				m.Payload = payload
				for _, s := range f.ships {
					if ok, e := s.r.Retain(m); ok || e != want {
						t.Fatalf("P11.3: %s: Retain(%.60s): %t, %d; want false, %d", s.name, line(m), ok, e, want)
					}
				}
			}
		}
		for _, s := range noTopic() {
			for _, qos := range append(noQoS(), 0, 1, 2) {
				refuse(api.Message{Topic: s, QoS: qos, Retain: qos == 1}, api.ErrRouterTopic)
			}
		}
		for _, s := range append(topics, "c/d/e", strings.Repeat("a", maxText)) {
			for _, qos := range noQoS() {
				refuse(api.Message{Topic: s, QoS: qos, Retain: qos == 3}, api.ErrRouterQoS)
			}
		}
		f.hold([]string{"a/b"}, fewFilters(2))
	}
}

// TestRetained: as many are kept as may be, and no more: of those that are, each may be another one, and one that goes makes room.
func TestRetained(t *testing.T) {
	for _, retained := range []int{-1 << 63, -1, 0, 1, 2, 3, 7, 1 << 20, 1<<20 + 1, 1<<63 - 1} {
		f := newFleet(t, retained, 0, 3)
		may := min(max(retained, 0), 12)
		for i := range 12 {
			m := plain(fmt.Sprintf("a/%d", i))
			for _, s := range f.ships {
				ok, e := s.r.Retain(m)
				if _, n := s.r.Len(); ok != (i < may) || e != api.OK || n != min(i+1, may) {
					t.Fatalf("P11.3: %s: Retained %d: message %d: %t, %d; %d are kept", s.name, retained, i, ok, e, n)
				}
			}
			f.m.retain(m)
			f.stand()
		}
		for i := range 12 {
			f.retain(api.Message{Topic: fmt.Sprintf("a/%d", i), Payload: []byte("other"), QoS: i % 3})
		}
		f.retain(api.Message{Topic: "b", Payload: []byte("b")})
		f.retain(api.Message{Topic: "a/0"})
		f.retain(api.Message{Topic: "a/0"})
		f.retain(api.Message{Topic: "b", Payload: []byte("b")})
		f.retain(api.Message{Topic: "a/0", Payload: []byte("again")})
		f.retain(api.Message{Topic: "b", Payload: []byte("c")})
		f.hold(nil, []string{"#", "b", "a/+"})
	}
}

// TestMaxRetained: no more than MaxRetained, whatever the setup says.
func TestMaxRetained(t *testing.T) {
	const most = 1 << 20
	r := router.New(api.Config{Retained: most + 2})
	name := func(i int) string { return fmt.Sprintf("%d/%d", i>>10, i&1023) }
	for i := range most + 2 {
		if ok, e := r.Retain(api.Message{Topic: name(i), Payload: []byte{1}}); ok != (i < most) || e != api.OK {
			t.Fatalf("P11.3: message %d: %t, %d", i, ok, e)
		}
	}
	if ok, _ := r.Retain(api.Message{Topic: name(7), Payload: []byte{2}}); !ok {
		t.Error("P11.3: one that is kept, MaxRetained being kept: false")
	}
	if ok, _ := r.Retain(api.Message{Topic: name(7)}); !ok {
		t.Error("P11.3: one that goes, MaxRetained being kept: false")
	}
	if ok, _ := r.Retain(api.Message{Topic: "x", Payload: []byte{2}}); !ok {
		t.Error("P11.3: one more, one having gone: false")
	}
	if ok, _ := r.Retain(api.Message{Topic: "y", Payload: []byte{2}}); ok {
		t.Error("P11.3: one more than MaxRetained: true")
	}
	if _, n := r.Len(); n != most || len(r.Retained()) != most {
		t.Errorf("P11.5: %d are kept", n)
	}
	if _, n := r.Nodes(); n > 2*most+1 {
		t.Errorf("P11.8: %d nodes", n)
	}
}

// overwrite writes over some bytes and over their spare room.
func overwrite(b []byte) {
	b = b[:cap(b)]
	for i := range b {
		b[i] = '!'
	}
}

// TestPayloadWrittenOver: the payload is kept as it was, its spare room isn't touched, and what was handed out is the caller's.
func TestPayloadWrittenOver(t *testing.T) {
	for name, r := range ways(api.Config{Retained: 1, Cache: 1}) {
		room := []byte("payload and room")
		r.Retain(api.Message{Topic: "a", Payload: []byte("first")})
		r.Retain(api.Message{Topic: "a", Payload: room[:7], QoS: 2})
		r.Retain(api.Message{Topic: "b", Payload: room[:9]})
		if string(room) != "payload and room" {
			t.Errorf("P11.3: %s: Retain changes what is handed in: %q", name, room)
		}
		copy(room, "PAYLOAD AND ROOM")
		first := r.Retained()
		for range 3 {
			for _, walk := range []func(func(api.Message) bool){r.Matching("#"), r.Matching("a"), r.Matching("+"), slices.Values(r.Retained())} {
				n := 0
				for m := range walk {
					if m.Topic != "a" || string(m.Payload) != "payload" || m.QoS != 2 || !m.Retain {
						t.Fatalf("P11.3: %s: kept is %s", name, line(m))
					}
					overwrite(m.Payload)
					n++
				}
				if n != 1 {
					t.Errorf("P11.4: %s: %d messages", name, n)
				}
			}
		}
		r.Retain(api.Message{Topic: "a", Payload: []byte("another")})
		r.Retain(api.Message{Topic: "a"})
		if len(first) != 1 || string(first[0].Payload) != "payload" || string(room) != "PAYLOAD AND ROOM" {
			t.Errorf("P11.3: %s: another Retain changes an answer: %q, or what was handed in: %q", name, lines(slices.Values(first)), room)
		}
	}
}

// TestMessagesApart: rule 3: payloads of one answer, and of several, share no memory; nor do two lists of messages.
func TestMessagesApart(t *testing.T) {
	f := newFleet(t, 1000, 0)
	for _, s := range fewTopics(2) {
		f.retain(plain(s))
	}
	for _, s := range f.ships {
		var lists [][]api.Message
		for _, filter := range []string{"#", "#", "+/#", "a/#", "a"} {
			lists = append(lists, slices.Collect(s.r.Matching(filter)), s.r.Retained())
		}
		for _, l := range lists {
			for _, one := range l {
				if line(one) != line(f.m.kept[one.Topic]) {
					t.Fatalf("P11.4: %s: a message has changed: %s", s.name, line(one))
				}
				overwrite(one.Payload)
			}
			l = l[:cap(l)]
			for i := range l {
				l[i] = api.Message{Topic: "spoilt", QoS: 99}
			}
		}
	}
	f.hold(nil, []string{"#", "a"})
}

// TestMatchingOfOneTopic: each topic alone, by each filter.
func TestMatchingOfOneTopic(t *testing.T) {
	filters := append(fewFilters(3), noFilter()[:7]...)
	for _, s := range fewTopics(2) {
		f := newFleet(t, 1, 0)
		f.retain(plain(s))
		f.hold(nil, filters)
	}
}

// TestMatchingOfAllTopics: all topics at once, by filters with signs at each place, and by what is no filter.
func TestMatchingOfAllTopics(t *testing.T) {
	r := rand.New(rand.NewSource(115))
	f := newFleet(t, 1000, 0)
	for _, s := range shuffled(r, fewTopics(3)) {
		m := some(r, s)
		m.Payload = []byte(s)
		for _, s := range f.ships {
			s.r.Retain(m)
		}
		f.m.retain(m)
	}
	f.hold(nil, append(fewFilters(3), noFilter()...))
	for _, s := range f.ships {
		for _, filter := range noFilter() {
			if got := topicsOf(s.r.Matching(filter)); len(got) != 0 {
				t.Errorf("P11.4: %s: Matching(%.20q): %q", s.name, filter, got)
			}
		}
	}
}

func TestMatchingOfHiddenTopics(t *testing.T) {
	for name, r := range ways(api.Config{Retained: 99}) {
		for _, s := range []string{"$", "$a", "$a/b", "$/b", "a/$", "/$", "$a/b/c", "$$", "b"} {
			r.Retain(plain(s))
		}
		for filter, want := range map[string][]string{
			"#": {"/$", "a/$", "b"}, "+": {"b"}, "+/#": {"/$", "a/$", "b"}, "+/b": nil, "+/+": {"/$", "a/$"}, "+/$": {"/$", "a/$"},
			"$": {"$"}, "$/#": {"$", "$/b"}, "$/+": {"$/b"}, "$a/#": {"$a", "$a/b", "$a/b/c"}, "$a/+": {"$a/b"}, "$a/+/+": {"$a/b/c"}, "$$/#": {"$$"}, "/+": {"/$"}, "a/#": {"a/$"},
		} {
			if got := topicsOf(r.Matching(filter)); !slices.Equal(got, want) {
				t.Errorf("P11.4: %s: Matching(%q): %q, want %q", name, filter, got, want)
			}
		}
	}
}

func TestRetainedInOrder(t *testing.T) {
	r := rand.New(rand.NewSource(116))
	want := []string{"/a", "\x01", "$a", "a", "a/", "a//", "a/b", "a/b/c", "a\x01", "a.b", "ab", "b", "\u00E4", "\U00010000"}
	for range 30 {
		for name, one := range ways(api.Config{Retained: len(want)}) {
			for _, s := range shuffled(r, want) {
				one.Retain(plain(s))
			}
			if got := topicsOf(slices.Values(one.Retained())); !slices.Equal(got, want) {
				t.Fatalf("P11.4: %s: Retained: %q, want %q", name, got, want)
			}
			if got := topicsOf(one.Matching("#")); !slices.Equal(got, slices.Delete(slices.Clone(want), 2, 3)) {
				t.Fatalf("P11.4: %s: Matching(#): %q", name, got)
			}
		}
	}
}

func TestMatchingAtTheEdges(t *testing.T) {
	f := newFleet(t, 99, 0)
	deep := strings.Repeat("/", maxText)
	for _, s := range []string{deep, deep[1:], deep[:maxText/2], deep[:maxText-1] + "a", strings.Repeat("a", maxText), strings.Repeat("a", maxText-1), strings.Repeat("a/", maxText/2) + "a"} {
		f.retain(plain(s))
	}
	signs := strings.Repeat("+/", maxText/2)
	f.hold(nil, []string{deep, deep[1:], deep[3:], deep[:maxText-2] + "/#", deep[:maxText-1] + "+", signs + "+", signs + "#", "#", "+", "/#", strings.Repeat("a", maxText), strings.Repeat("a", maxText-2) + "/#"})
}

// someFilters: that give many messages, few, and none.
func someFilters() []string {
	return []string{"#", "+", "+/+", "a/#", "a/+", "+/a/#", "$/#", "a", "none", "a#"}
}

// TestMatchingIsLeft: behind each of its messages, and it asks no more then.
func TestMatchingIsLeft(t *testing.T) {
	f := newFleet(t, 1000, 0)
	for _, s := range fewTopics(2) {
		f.retain(plain(s))
	}
	for _, s := range f.ships {
		for _, filter := range someFilters() {
			rows, walk := strings.SplitAfter(f.m.matching(filter), "\n"), s.r.Matching(filter)
			for enough := 1; enough < len(rows); enough++ {
				got, asked := "", 0
				walk(func(m api.Message) bool {
					asked++
					got += line(m)
					return asked < enough
				})
				if asked != enough || got != strings.Join(rows[:enough], "") {
					t.Fatalf("P11.4: %s: Matching(%s), left behind %d: %d times asked\n%s", s.name, filter, enough, asked, got)
				}
			}
		}
	}
}

// TestMatchingWithinItself: it is gone through again, and within itself, and the router is asked meanwhile.
func TestMatchingWithinItself(t *testing.T) {
	f := newFleet(t, 1000, 0, 2)
	f.subscribe("x", "#", 1)
	for _, s := range fewTopics(2) {
		f.retain(plain(s))
	}
	for _, s := range f.ships {
		for _, filter := range someFilters() {
			walk, want, outer := s.r.Matching(filter), f.m.matching(filter), ""
			for m := range walk {
				if inner := lines(walk); inner != want {
					t.Fatalf("P11.4: %s: Matching(%s) within itself:\n%s", s.name, filter, inner)
				}
				for range walk {
					break
				}
				outer += line(m)
				if got, want := told(s.r.Route(m.Topic)), told(f.m.route(m.Topic)); got != want {
					t.Fatalf("P11.2: %s: Route(%q) within Matching: %s", s.name, m.Topic, got)
				}
				if len(s.r.Retained()) != len(f.m.kept) {
					t.Fatalf("P11.4: %s: Retained within Matching", s.name)
				}
			}
			if outer != want {
				t.Errorf("P11.4: %s: Matching(%s) around itself:\n%s", s.name, filter, outer)
			}
			if again := lines(walk); again != want {
				t.Errorf("P11.4: %s: Matching(%s) again:\n%s", s.name, filter, again)
			}
		}
	}
}

// TestMatchingGivesWhatIsHeldThen: rule 7: what counts is what is kept when it is gone through.
func TestMatchingGivesWhatIsHeldThen(t *testing.T) {
	f := newFleet(t, 3, 0, 2)
	var walks []func(func(api.Message) bool)
	for _, s := range f.ships {
		walks = append(walks, s.r.Matching("a/#"))
	}
	hold := func(when string) {
		t.Helper()
		for i, s := range f.ships {
			if got := lines(walks[i]); got != f.m.matching("a/#") {
				t.Errorf("P11.4: %s: Matching, asked for ahead of %s:\n%s", s.name, when, got)
			}
		}
	}
	hold("nothing")
	f.retain(plain("a"))
	hold("Retain")
	f.retain(plain("a/b"))
	f.retain(api.Message{Topic: "a", Payload: []byte("new"), QoS: 2})
	f.retain(plain("b"))
	hold("further Retains")
	f.retain(plain("a/c"))
	hold("one that isn't kept")
	f.retain(api.Message{Topic: "a"})
	hold("one without a payload")
	f.retain(api.Message{Topic: "a/b"})
	f.retain(api.Message{Topic: "b"})
	hold("the last one that goes")
}
