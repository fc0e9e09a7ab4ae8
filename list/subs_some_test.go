package list_test

import (
	"cmp"
	"fmt"
	"maps"
	"math/rand"
	"slices"
	"strings"
	"testing"

	"crier/api"
	"crier/list"
	"crier/subtrie"
	"crier/topic"
)

// row: a filter, a key and its quality there.
type row struct {
	filter, key string
	qos         int
}

// model: of each filter the keys and their qualities.
type model map[string]map[string]int

func (m model) put(filter, key string, qos int) int {
	old, ok := m[filter][key]
	if !ok {
		old = -1
	}
	if m[filter] == nil {
		m[filter] = map[string]int{}
	}
	m[filter][key] = qos
	return old
}

func (m model) drop(filter, key string) bool {
	_, ok := m[filter][key]
	delete(m[filter], key)
	if len(m[filter]) == 0 {
		delete(m, filter)
	}
	return ok
}

func (m model) leave(key string) int {
	n := 0
	for _, filter := range slices.Collect(maps.Keys(m)) {
		if m.drop(filter, key) {
			n++
		}
	}
	return n
}

// byKey tells the entries of some keys, by key.
func byKey(keys map[string]int) []api.Entry {
	var l []api.Entry
	for key, qos := range keys {
		l = append(l, api.Entry{Key: key, QoS: qos})
	}
	slices.SortFunc(l, func(a, b api.Entry) int { return cmp.Compare(a.Key, b.Key) })
	return l
}

// find asks each filter.
func (m model) find(s string) []api.Entry {
	best := map[string]int{}
	for filter, keys := range m {
		if topic.Match(filter, s) {
			for key, qos := range keys {
				best[key] = max(best[key], qos)
			}
		}
	}
	return byKey(best)
}

// all tells what All is to give, a line each.
func (m model) all() string {
	var b strings.Builder
	for _, filter := range topic.Sorted(slices.Collect(maps.Keys(m))) {
		for _, e := range byKey(m[filter]) {
			b.WriteString(laid(filter, e))
		}
	}
	return b.String()
}

// laid tells a filter and an entry as a line.
func laid(filter string, e api.Entry) string { return fmt.Sprintf("%q %q %d\n", filter, e.Key, e.QoS) }

// told tells entries as a text.
func told(l []api.Entry) string {
	s := ""
	for _, e := range l {
		s += fmt.Sprintf("[%.40q %d]", e.Key, e.QoS)
	}
	return s
}

// given tells what All gives, a line each.
func given(all func(func(string, api.Entry) bool)) string {
	var b strings.Builder
	for filter, e := range all {
		b.WriteString(laid(filter, e))
	}
	return b.String()
}

// trio: a Subs, and a trie and a model that were told the same.
type trio struct {
	s *list.Subs
	x *subtrie.Trie
	m model
}

func newTrio() trio { return trio{list.NewSubs(), subtrie.New(), model{}} }

// put lays a key down in all three.
func (o trio) put(t *testing.T, filter, key string, qos int) {
	t.Helper()
	want := o.m.put(filter, key, qos)
	got, e := o.s.Put(filter, key, qos)
	if got != want || e != api.OK {
		t.Fatalf("P10.1: Put(%.40q, %.40q, %d): %d, %d; want %d", filter, key, qos, got, e, want)
	}
	if old, f := o.x.Put(filter, key, qos); old != got || f != e {
		t.Fatalf("P10.4: Put(%.40q, %.40q, %d): %d, %d; the trie's: %d, %d", filter, key, qos, got, e, old, f)
	}
	o.len(t)
}

// refuse puts what is refused.
func (o trio) refuse(t *testing.T, filter, key string, qos int, want api.Errno) {
	t.Helper()
	if got, e := o.s.Put(filter, key, qos); got != 0 || e != want {
		t.Fatalf("P10.1: Put(%.40q, %.40q, %d): %d, %d; want 0, %d", filter, key, qos, got, e, want)
	}
	if old, e := o.x.Put(filter, key, qos); old != 0 || e != want {
		t.Fatalf("P10.4: Put(%.40q, %.40q, %d) of the trie: %d, %d", filter, key, qos, old, e)
	}
	o.len(t)
}

// drop takes a key from a filter in all three.
func (o trio) drop(t *testing.T, filter, key string) {
	t.Helper()
	want, got := o.m.drop(filter, key), o.s.Drop(filter, key)
	if got != want {
		t.Fatalf("P10.1: Drop(%.40q, %.40q): %t", filter, key, got)
	}
	if o.x.Drop(filter, key) != got {
		t.Fatalf("P10.4: Drop(%.40q, %.40q): %t, the trie's isn't", filter, key, got)
	}
	o.len(t)
}

// leave takes a key from everywhere in all three.
func (o trio) leave(t *testing.T, key string) {
	t.Helper()
	want, got := o.m.leave(key), o.s.Leave(key)
	if got != want {
		t.Fatalf("P10.1: Leave(%.40q): %d, want %d", key, got, want)
	}
	if n := o.x.Leave(key); n != got {
		t.Fatalf("P10.4: Leave(%.40q): %d, the trie's %d", key, got, n)
	}
	o.len(t)
}

func (o trio) len(t *testing.T) {
	t.Helper()
	if got := o.s.Len(); got != len(o.m) || got != o.x.Len() {
		t.Fatalf("P10.1: Len: %d, want %d; the trie's %d", got, len(o.m), o.x.Len())
	}
}

// hold holds all that is told against the other two: of these filters and topics, too.
func (o trio) hold(t *testing.T, filters, topics []string) {
	t.Helper()
	o.len(t)
	got := given(o.s.All())
	if want := o.m.all(); got != want {
		t.Fatalf("P10.1: All:\n%.400s\nwant:\n%.400s", got, want)
	}
	if got != given(o.x.All()) {
		t.Fatalf("P10.4: All:\n%.400s\nthe trie's:\n%.400s", got, given(o.x.All()))
	}
	for _, f := range filters {
		got := o.s.Of(f)
		if want := byKey(o.m[f]); !slices.Equal(got, want) {
			t.Fatalf("P10.1: Of(%.40q): %s, want %s", f, told(got), told(want))
		}
		if !slices.Equal(got, o.x.Of(f)) {
			t.Fatalf("P10.4: Of(%.40q): %s, the trie's %s", f, told(got), told(o.x.Of(f)))
		}
	}
	for _, s := range topics {
		got := o.s.Find(s)
		if want := o.m.find(s); !slices.Equal(got, want) {
			t.Fatalf("P10.2: Find(%.40q): %s, want %s\n%.400s", s, told(got), told(want), o.m.all())
		}
		if !slices.Equal(got, o.x.Find(s)) {
			t.Fatalf("P10.4: Find(%.40q): %s, the trie's %s", s, told(got), told(o.x.Find(s)))
		}
	}
}

// step does one thing to all three: much of it to what is there.
func (o trio) step(t *testing.T, r *rand.Rand, filters, keys []string) {
	t.Helper()
	f, key := someOf(r, filters), someOf(r, keys)
	if there := slices.Sorted(maps.Keys(o.m)); len(there) > 0 && r.Intn(2) == 0 {
		f = someOf(r, there)
		key = someOf(r, byKey(o.m[f])).Key
	}
	switch n := r.Intn(24); {
	case n < 14:
		o.put(t, f, key, r.Intn(3))
	case n < 20:
		o.drop(t, f, key)
	case n < 22:
		o.leave(t, key)
	case n < 23:
		o.refuse(t, f, key, someOf(r, noQoS()), api.ErrSubtrieQoS)
	default:
		wrong := someOf(r, noFilter())
		o.refuse(t, wrong, key, r.Intn(5)-1, api.ErrSubtrieFilter)
		o.drop(t, wrong, key)
	}
}

// filled tells a trio with so many things put in at random.
func filled(t *testing.T, r *rand.Rand, filters []string, n int) trio {
	t.Helper()
	o := newTrio()
	for range n {
		o.put(t, someOf(r, filters), someOf(r, fewKeys()), r.Intn(3))
	}
	return o
}
