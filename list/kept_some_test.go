package list_test

import (
	"bytes"
	"fmt"
	"iter"
	"maps"
	"math/rand"
	"slices"
	"strings"
	"testing"

	"crier/api"
	"crier/list"
	"crier/rettrie"
	"crier/topic"
)

// messages: of each topic its message, as plain as can be.
type messages map[string]api.Message

func (m messages) put(one api.Message) bool {
	_, ok := m[one.Topic]
	one.Payload = bytes.Clone(one.Payload)
	m[one.Topic] = one
	return ok
}

func (m messages) drop(s string) bool {
	_, ok := m[s]
	delete(m, s)
	return ok
}

// find asks the filter of each topic, and tells the messages in order.
func (m messages) find(filter string) string {
	var b strings.Builder
	for _, s := range topic.Sorted(slices.Collect(maps.Keys(m))) {
		if topic.Match(filter, s) {
			b.WriteString(line(m[s]))
		}
	}
	return b.String()
}

// all tells what All is to give.
func (m messages) all() string {
	var b strings.Builder
	for _, s := range topic.Sorted(slices.Collect(maps.Keys(m))) {
		b.WriteString(line(m[s]))
	}
	return b.String()
}

// line tells a message as a line, all of its fields.
func line(m api.Message) string {
	return fmt.Sprintf("%q %q %d %t\n", m.Topic, m.Payload, m.QoS, m.Retain)
}

// lines tells what an iterator gives, a line each.
func lines(s iter.Seq[api.Message]) string {
	var b strings.Builder
	for m := range s {
		b.WriteString(line(m))
	}
	return b.String()
}

// topicsOf tells the topics that an iterator gives.
func topicsOf(s iter.Seq[api.Message]) []string {
	var l []string
	for m := range s {
		l = append(l, m.Topic)
	}
	return l
}

// store: a Kept, and a trie and a model that were told the same.
type store struct {
	k *list.Kept
	x *rettrie.Trie
	m messages
}

func newStore() store { return store{list.NewKept(), rettrie.New(), messages{}} }

// put keeps a message in all three.
func (o store) put(t *testing.T, one api.Message) {
	t.Helper()
	want := o.m.put(one)
	got, e := o.k.Put(one)
	if got != want || e != api.OK {
		t.Fatalf("P10.3: Put of %.60s: %t, %d; want %t", line(one), got, e, want)
	}
	if old, f := o.x.Put(one); old != got || f != e {
		t.Fatalf("P10.4: Put of %.60s: %t, %d; the trie's: %t, %d", line(one), got, e, old, f)
	}
	o.len(t)
}

// refuse puts what is refused.
func (o store) refuse(t *testing.T, one api.Message, want api.Errno) {
	t.Helper()
	if got, e := o.k.Put(one); got || e != want {
		t.Fatalf("P10.3: Put of %.60s: %t, %d; want false, %d", line(one), got, e, want)
	}
	if old, e := o.x.Put(one); old || e != want {
		t.Fatalf("P10.4: Put of %.60s of the trie: %t, %d", line(one), old, e)
	}
	o.len(t)
}

// drop takes a topic's message away in all three.
func (o store) drop(t *testing.T, s string) {
	t.Helper()
	want, got := o.m.drop(s), o.k.Drop(s)
	if got != want {
		t.Fatalf("P10.3: Drop(%.40q): %t", s, got)
	}
	if o.x.Drop(s) != got {
		t.Fatalf("P10.4: Drop(%.40q): %t, the trie's isn't", s, got)
	}
	o.len(t)
}

func (o store) len(t *testing.T) {
	t.Helper()
	if got := o.k.Len(); got != len(o.m) || got != o.x.Len() {
		t.Fatalf("P10.3: Len: %d, want %d; the trie's %d", got, len(o.m), o.x.Len())
	}
}

// hold holds all that is told against the other two: of these topics and filters, too.
func (o store) hold(t *testing.T, topics, filters []string) {
	t.Helper()
	o.len(t)
	got := lines(o.k.All())
	if want := o.m.all(); got != want {
		t.Fatalf("P10.3: All:\n%.400s\nwant:\n%.400s", got, want)
	}
	if got != lines(o.x.All()) {
		t.Fatalf("P10.4: All:\n%.400s\nthe trie's:\n%.400s", got, lines(o.x.All()))
	}
	for _, s := range topics {
		want, there := o.m[s]
		got, ok := o.k.Get(s)
		if ok != there || line(got) != line(want) {
			t.Fatalf("P10.3: Get(%.40q): %.60s, %t; want %.60s, %t", s, line(got), ok, line(want), there)
		}
		if of, is := o.x.Get(s); is != ok || line(of) != line(got) {
			t.Fatalf("P10.4: Get(%.40q): %.60s, %t; the trie's %.60s, %t", s, line(got), ok, line(of), is)
		}
	}
	for _, f := range filters {
		got := lines(o.k.Find(f))
		if want := o.m.find(f); got != want {
			t.Fatalf("P10.3: Find(%.40q):\n%.400s\nwant:\n%.400s", f, got, want)
		}
		if of := lines(o.x.Find(f)); got != of {
			t.Fatalf("P10.4: Find(%.40q):\n%.400s\nthe trie's:\n%.400s", f, got, of)
		}
	}
}

// step does one thing to all three: much of it to what is there.
func (o store) step(t *testing.T, r *rand.Rand, topics []string) {
	t.Helper()
	s := someOf(r, topics)
	if there := slices.Sorted(maps.Keys(o.m)); len(there) > 0 && r.Intn(2) == 0 {
		s = someOf(r, there)
	}
	switch n := r.Intn(20); {
	case n < 11:
		o.put(t, some(r, s))
	case n < 18:
		o.drop(t, s)
	case n < 19:
		one := some(r, s)
		one.QoS = someOf(r, noQoS())
		o.refuse(t, one, api.ErrRettrieQoS)
	default:
		one := some(r, someOf(r, noTopic()))
		one.QoS = r.Intn(5) - 1
		o.refuse(t, one, api.ErrRettrieTopic)
		o.drop(t, one.Topic)
	}
}

// plain tells a message of a topic, with a payload that says which it is.
func plain(s string) api.Message {
	return api.Message{Topic: s, Payload: []byte("<" + s[:min(len(s), 20)] + ">"), QoS: 1}
}

// some tells a message of a topic, the rest of it at random.
func some(r *rand.Rand, s string) api.Message {
	payload := make([]byte, r.Intn(4))
	r.Read(payload)
	return api.Message{Topic: s, Payload: payload, QoS: r.Intn(3), Retain: r.Intn(2) == 0}
}

// stored tells a store with so many messages put in at random.
func stored(t *testing.T, r *rand.Rand, topics []string, n int) store {
	t.Helper()
	o := newStore()
	for range n {
		o.put(t, some(r, someOf(r, topics)))
	}
	return o
}
