package subtrie_test

import (
	"cmp"
	"fmt"
	"maps"
	"math/rand"
	"slices"
	"strings"
	"testing"

	"crier/api"
	"crier/subtrie"
	"crier/topic"
)

// maxText: how many bytes a text has at most.
const maxText = 65535

// wrong: texts that are no filter.
func wrong() []string {
	return []string{"", "a+", "+a", "++", "#/a", "a/#/", "#/#", "a#", "##", "+#", "\x00", "a/\x00", "\xFF", "\xC0\x80", "+/\xED\xA0\x80", strings.Repeat("a", maxText+1), strings.Repeat("/", maxText+1)}
}

// model: of each filter the keys and their qualities, as plain as can be.
type model map[string]map[string]int

func (m model) put(filter, key string, qos int) int {
	old, ok := m[filter][key]
	if !ok {
		old = -1
	}
	if m[filter] == nil {
		m[filter] = map[string]int{}
	}
	m[filter][key] = qos
	return old
}

func (m model) drop(filter, key string) bool {
	_, ok := m[filter][key]
	delete(m[filter], key)
	if len(m[filter]) == 0 {
		delete(m, filter)
	}
	return ok
}

func (m model) leave(key string) int {
	n := 0
	for _, filter := range slices.Collect(maps.Keys(m)) {
		if m.drop(filter, key) {
			n++
		}
	}
	return n
}

func (m model) copied() model {
	c := model{}
	for filter, keys := range m {
		c[filter] = maps.Clone(keys)
	}
	return c
}

// byKey tells the entries of some keys, by key.
func byKey(keys map[string]int) []api.Entry {
	var l []api.Entry
	for key, qos := range keys {
		l = append(l, api.Entry{Key: key, QoS: qos})
	}
	slices.SortFunc(l, func(a, b api.Entry) int { return cmp.Compare(a.Key, b.Key) })
	return l
}

// find asks each filter.
func (m model) find(s string) []api.Entry {
	best := map[string]int{}
	for filter, keys := range m {
		if topic.Match(filter, s) {
			for key, qos := range keys {
				best[key] = max(best[key], qos)
			}
		}
	}
	return byKey(best)
}

// all tells what All is to give, a line each.
func (m model) all() string {
	var b strings.Builder
	for _, filter := range topic.Sorted(slices.Collect(maps.Keys(m))) {
		for _, e := range byKey(m[filter]) {
			fmt.Fprintf(&b, "%q %q %d\n", filter, e.Key, e.QoS)
		}
	}
	return b.String()
}

// rest: what is left of a filter's levels below a node, and the filter.
type rest struct {
	levels []string
	filter string
}

// shape tells the one tree that P7.6 and P7.7 allow, from all filters at once.
func (m model) shape() api.Shape {
	var l []rest
	for filter := range m {
		l = append(l, rest{strings.Split(filter, "/"), filter})
	}
	return m.below(nil, l)
}

// below tells the tree at a node behind an edge; of each filter what is left of it there.
func (m model) below(edge []string, l []rest) api.Shape {
	s := api.Shape{Levels: edge}
	groups := map[string][]rest{}
	for _, r := range l {
		if len(r.levels) == 0 {
			s.Entries = byKey(m[r.filter])
		} else {
			groups[r.levels[0]] = append(groups[r.levels[0]], r)
		}
	}
	for _, first := range slices.Sorted(maps.Keys(groups)) {
		g := groups[first]
		n := len(g[0].levels)
		for _, r := range g {
			for !slices.Equal(g[0].levels[:n], r.levels[:min(n, len(r.levels))]) {
				n--
			}
		}
		way := g[0].levels[:n]
		for i := range g {
			g[i].levels = g[i].levels[n:]
		}
		s.Kids = append(s.Kids, m.below(way, g))
	}
	return s
}

// drawn tells a tree as a text.
func drawn(s api.Shape) string {
	kids := ""
	for _, k := range s.Kids {
		kids += "(" + drawn(k) + ")"
	}
	here := ""
	if s.Here {
		here = "!"
	}
	return fmt.Sprintf("%q%s%s%s", s.Levels, here, told(s.Entries), kids)
}

// told tells entries as a text.
func told(l []api.Entry) string {
	s := ""
	for _, e := range l {
		s += fmt.Sprintf("[%q %d]", e.Key, e.QoS)
	}
	return s
}

// counted tells how many nodes a tree has.
func counted(s api.Shape) int {
	n := 1
	for _, k := range s.Kids {
		n += counted(k)
	}
	return n
}

// given tells what All gives, a line each.
func given(x *subtrie.Trie) string {
	var b strings.Builder
	for filter, e := range x.All() {
		fmt.Fprintf(&b, "%q %q %d\n", filter, e.Key, e.QoS)
	}
	return b.String()
}

// holdTree holds how a trie stands against the model.
func holdTree(t *testing.T, x *subtrie.Trie, m model) {
	t.Helper()
	want := m.shape()
	if got := drawn(x.Shape()); got != drawn(want) {
		t.Errorf("P7.7: Shape:\n%.400s\nwant:\n%.400s", got, drawn(want))
	}
	if got := x.Nodes(); got != counted(want) {
		t.Errorf("P7.6: Nodes: %d, want %d", got, counted(want))
	}
	if got := x.Len(); got != len(m) {
		t.Errorf("P7.4: Len: %d, want %d", got, len(m))
	}
	if x.Nodes() > 2*x.Len()+1 {
		t.Errorf("P7.9: %d nodes of %d filters", x.Nodes(), x.Len())
	}
	if len(m) == 0 && x.Nodes() != 1 {
		t.Errorf("P7.9: %d nodes of nothing", x.Nodes())
	}
}

// holdAll holds all that a trie tells against the model: of these filters and topics, too.
func holdAll(t *testing.T, x *subtrie.Trie, m model, filters, topics []string) {
	t.Helper()
	holdTree(t, x, m)
	if got, want := given(x), m.all(); got != want {
		t.Errorf("P7.4: All:\n%.400s\nwant:\n%.400s", got, want)
	}
	for _, f := range filters {
		if got, want := x.Of(f), byKey(m[f]); !slices.Equal(got, want) {
			t.Errorf("P7.4: Of(%q): %s, want %s", f, told(got), told(want))
		}
	}
	for _, s := range topics {
		if got, want := x.Find(s), m.find(s); !slices.Equal(got, want) {
			t.Errorf("P7.5: Find(%q): %s, want %s\n%s", s, told(got), told(want), m.all())
		}
	}
}

// mustPut lays a key down, in the trie and in the model.
func mustPut(t *testing.T, x *subtrie.Trie, m model, filter, key string, qos int) {
	t.Helper()
	want := m.put(filter, key, qos)
	if got, e := x.Put(filter, key, qos); got != want || e != api.OK {
		t.Errorf("P7.2: Put(%.40q, %q, %d): %d, %d; want %d", filter, key, qos, got, e, want)
	}
}

// mustDrop takes one away, from the trie and from the model.
func mustDrop(t *testing.T, x *subtrie.Trie, m model, filter, key string) {
	t.Helper()
	want := m.drop(filter, key)
	if got := x.Drop(filter, key); got != want {
		t.Errorf("P7.3: Drop(%.40q, %q): %t, want %t", filter, key, got, want)
	}
}

// mustLeave takes a key away everywhere, from the trie and from the model.
func mustLeave(t *testing.T, x *subtrie.Trie, m model, key string) {
	t.Helper()
	want := m.leave(key)
	if got := x.Leave(key); got != want {
		t.Errorf("P7.3: Leave(%q): %d, want %d", key, got, want)
	}
}

// joined tells all texts of 1 to most of these levels.
func joined(most int, levels ...string) []string {
	rows := levels
	all := slices.Clone(levels)
	for range most - 1 {
		var longer []string
		for _, s := range rows {
			for _, l := range levels {
				longer = append(longer, s+"/"+l)
			}
		}
		all, rows = append(all, longer...), longer
	}
	return all
}

// fewFilters: all filters of few levels.
func fewFilters(most int) []string {
	return slices.DeleteFunc(joined(most, "", "a", "b", "$", "+", "#"), func(s string) bool { return topic.CheckFilter(s) != api.OK })
}

// fewTopics: all topics of few levels, one of which no filter has.
func fewTopics(most int) []string {
	return slices.DeleteFunc(joined(most, "", "a", "b", "c", "$", "$a"), func(s string) bool { return topic.Check(s) != api.OK })
}

// fewKeys: the empty key, and keys that are no texts, too.
func fewKeys() []string { return []string{"", "x", "y", "x/", "\x00", "\xFF", "+"} }

// someOf picks one.
func someOf(r *rand.Rand, l []string) string { return l[r.Intn(len(l))] }

// laid tells a trie and a model with so many things put in at random.
func laid(t *testing.T, r *rand.Rand, filters []string, n int) (*subtrie.Trie, model) {
	t.Helper()
	x, m := subtrie.New(), model{}
	for range n {
		mustPut(t, x, m, someOf(r, filters), someOf(r, fewKeys()), r.Intn(3))
	}
	return x, m
}
