package rettrie_test

import (
	"bytes"
	"fmt"
	"iter"
	"maps"
	"math/rand"
	"slices"
	"strings"
	"testing"

	"crier/api"
	"crier/rettrie"
	"crier/topic"
)

// maxText: how many bytes a text has at most.
const maxText = 65535

// noText: texts that are neither a topic nor a filter, whatever their signs.
func noText() []string {
	return []string{"", "\x00", "a/\x00", "\xFF", "\xC0\x80", "a/\xED\xA0\x80", "\xF4\x90\x80\x80", strings.Repeat("a", maxText+1), strings.Repeat("/", maxText+1)}
}

// noTopic: texts that are no topic.
func noTopic() []string {
	return append(noText(), "+", "#", "a/+", "a/#", "+/a", "a+", "a#", "#/a", "/+/", "$/#", "$+")
}

// noFilter: texts that are no filter.
func noFilter() []string {
	return append(noText(), "a+", "+a", "++", "#/a", "a/#/", "#/#", "a#", "##", "+#", "a/#/b", "+/a#", "$+", "+\x00", "#\xFF", strings.Repeat("a", maxText-1)+"/#")
}

// model: of each topic its message, as plain as can be.
type model map[string]api.Message

func (m model) put(one api.Message) bool {
	_, ok := m[one.Topic]
	one.Payload = bytes.Clone(one.Payload)
	m[one.Topic] = one
	return ok
}

func (m model) drop(s string) bool {
	_, ok := m[s]
	delete(m, s)
	return ok
}

// find asks the filter of each topic, and tells the messages in order.
func (m model) find(filter string) string {
	var b strings.Builder
	for _, s := range topic.Sorted(slices.Collect(maps.Keys(m))) {
		if topic.Match(filter, s) {
			b.WriteString(line(m[s]))
		}
	}
	return b.String()
}

// all tells what All is to give.
func (m model) all() string {
	var b strings.Builder
	for _, s := range topic.Sorted(slices.Collect(maps.Keys(m))) {
		b.WriteString(line(m[s]))
	}
	return b.String()
}

// line tells a message as a line, all of its fields.
func line(m api.Message) string {
	return fmt.Sprintf("%q %q %d %t\n", m.Topic, m.Payload, m.QoS, m.Retain)
}

// given tells what an iterator gives, a line each.
func given(s iter.Seq[api.Message]) string {
	var b strings.Builder
	for m := range s {
		b.WriteString(line(m))
	}
	return b.String()
}

// rest: what is left of a topic's levels below a node.
type rest []string

// shape tells the one tree that P9.5 allows, from all topics at once.
func (m model) shape() api.Shape {
	var l []rest
	for s := range m {
		l = append(l, strings.Split(s, "/"))
	}
	return below(nil, l)
}

// below tells the tree at a node behind an edge; of each topic what is left of it there.
func below(edge []string, l []rest) api.Shape {
	s := api.Shape{Levels: edge}
	groups := map[string][]rest{}
	for _, r := range l {
		if len(r) == 0 {
			s.Here = true
		} else {
			groups[r[0]] = append(groups[r[0]], r)
		}
	}
	for _, first := range slices.Sorted(maps.Keys(groups)) {
		g := groups[first]
		n := len(g[0])
		for _, r := range g {
			for !slices.Equal(g[0][:n], r[:min(n, len(r))]) {
				n--
			}
		}
		way := g[0][:n]
		for i := range g {
			g[i] = g[i][n:]
		}
		s.Kids = append(s.Kids, below(way, g))
	}
	return s
}

// drawn tells a tree as a text.
func drawn(s api.Shape) string {
	kids := ""
	for _, k := range s.Kids {
		kids += "(" + drawn(k) + ")"
	}
	here := ""
	if s.Here {
		here = "!"
	}
	return fmt.Sprintf("%q%s%s%s", s.Levels, here, strings.Repeat("?", len(s.Entries)), kids)
}

// counted tells how many nodes a tree has.
func counted(s api.Shape) int {
	n := 1
	for _, k := range s.Kids {
		n += counted(k)
	}
	return n
}

// holdTree holds how a trie stands against the model.
func holdTree(t *testing.T, x *rettrie.Trie, m model) {
	t.Helper()
	want := m.shape()
	if got := drawn(x.Shape()); got != drawn(want) {
		t.Errorf("P9.5: Shape:\n%.400s\nwant:\n%.400s", got, drawn(want))
	}
	if got := x.Nodes(); got != counted(want) {
		t.Errorf("P9.5: Nodes: %d, want %d", got, counted(want))
	}
	if got := x.Len(); got != len(m) {
		t.Errorf("P9.3: Len: %d, want %d", got, len(m))
	}
	if x.Nodes() > 2*x.Len()+1 {
		t.Errorf("P9.7: %d nodes of %d messages", x.Nodes(), x.Len())
	}
	if len(m) == 0 && x.Nodes() != 1 {
		t.Errorf("P9.7: %d nodes of nothing", x.Nodes())
	}
}

// holdAll holds all that a trie tells against the model: of these topics and filters, too.
func holdAll(t *testing.T, x *rettrie.Trie, m model, topics, filters []string) {
	t.Helper()
	holdTree(t, x, m)
	if got, want := given(x.All()), m.all(); got != want {
		t.Errorf("P9.4: All:\n%.400s\nwant:\n%.400s", got, want)
	}
	for _, s := range topics {
		want, there := m[s]
		if got, ok := x.Get(s); ok != there || line(got) != line(want) {
			t.Errorf("P9.3: Get(%.40q): %.40s, %t; want %.40s, %t", s, line(got), ok, line(want), there)
		}
	}
	for _, f := range filters {
		if got, want := given(x.Find(f)), m.find(f); got != want {
			t.Errorf("P9.4: Find(%.40q):\n%.400s\nwant:\n%.400s", f, got, want)
		}
	}
}

// mustPut lays a message down, in the trie and in the model.
func mustPut(t *testing.T, x *rettrie.Trie, m model, one api.Message) {
	t.Helper()
	want := m.put(one)
	if got, e := x.Put(one); got != want || e != api.OK {
		t.Errorf("P9.2: Put of %.40s: %t, %d; want %t", line(one), got, e, want)
	}
}

// mustDrop takes one away, from the trie and from the model.
func mustDrop(t *testing.T, x *rettrie.Trie, m model, s string) {
	t.Helper()
	want := m.drop(s)
	if got := x.Drop(s); got != want {
		t.Errorf("P9.3: Drop(%.40q): %t, want %t", s, got, want)
	}
}

// joined tells all texts of 1 to most of these levels.
func joined(most int, levels ...string) []string {
	rows := levels
	all := slices.Clone(levels)
	for range most - 1 {
		var longer []string
		for _, s := range rows {
			for _, l := range levels {
				longer = append(longer, s+"/"+l)
			}
		}
		all, rows = append(all, longer...), longer
	}
	return all
}

// fewTopics: all topics of few levels.
func fewTopics(most int) []string {
	return slices.DeleteFunc(joined(most, "", "a", "b", "$", "$a"), func(s string) bool { return topic.Check(s) != api.OK })
}

// fewFilters: all filters of few levels, one of which no topic has.
func fewFilters(most int) []string {
	return slices.DeleteFunc(joined(most, "", "a", "c", "$", "+", "#"), func(s string) bool { return topic.CheckFilter(s) != api.OK })
}

// someOf picks one.
func someOf(r *rand.Rand, l []string) string { return l[r.Intn(len(l))] }

// plain tells a message of a topic, with a payload that says which it is.
func plain(s string) api.Message {
	return api.Message{Topic: s, Payload: []byte("<" + s[:min(len(s), 20)] + ">"), QoS: 1}
}

// some tells a message of a topic, the rest of it at random.
func some(r *rand.Rand, s string) api.Message {
	payload := make([]byte, r.Intn(4))
	r.Read(payload)
	return api.Message{Topic: s, Payload: payload, QoS: r.Intn(3), Retain: r.Intn(2) == 0}
}

// laid tells a trie and a model with so many messages put in at random.
func laid(t *testing.T, r *rand.Rand, topics []string, n int) (*rettrie.Trie, model) {
	t.Helper()
	x, m := rettrie.New(), model{}
	for range n {
		mustPut(t, x, m, some(r, someOf(r, topics)))
	}
	return x, m
}

// step does one thing to a trie and to its model.
func step(t *testing.T, r *rand.Rand, x *rettrie.Trie, m model, topics []string) {
	t.Helper()
	switch n := r.Intn(20); {
	case n < 10:
		mustPut(t, x, m, some(r, someOf(r, topics)))
	case n < 12 || len(m) == 0:
		mustDrop(t, x, m, someOf(r, topics))
	default:
		mustDrop(t, x, m, someOf(r, slices.Sorted(maps.Keys(m))))
	}
}
