package rettrie_test

import (
	"math/rand"
	"slices"
	"strings"
	"testing"

	"crier/rettrie"
)

// TestEdgeIsCutAndJoined: Nodes behind each step.
func TestEdgeIsCutAndJoined(t *testing.T) {
	x, m := rettrie.New(), model{}
	put := func(s string, nodes int) {
		t.Helper()
		mustPut(t, x, m, plain(s))
		holdTree(t, x, m)
		if x.Nodes() != nodes {
			t.Errorf("P9.5: behind Put of %q: %d nodes, want %d", s, x.Nodes(), nodes)
		}
	}
	drop := func(s string, nodes int) {
		t.Helper()
		mustDrop(t, x, m, s)
		holdTree(t, x, m)
		if x.Nodes() != nodes {
			t.Errorf("P9.5: behind Drop of %q: %d nodes, want %d", s, x.Nodes(), nodes)
		}
	}
	put("a/b/c/d", 2)
	put("a/b/c/e", 4)
	put("a/b", 5)
	put("a/b/c", 5)
	put("a/b/c", 5)
	drop("a/b/c", 5)
	drop("a/b/c", 5)
	drop("a/b/c/d", 3)
	drop("a/b", 2)
	put("a", 3)
	put("b", 4)
	drop("a/b/c/e", 3)
	drop("a", 2)
	drop("b", 1)
}

// TestEachSet: all sets of topics that part one another's edges, laid down in two orders, and each one taken away again.
func TestEachSet(t *testing.T) {
	topics := []string{"a/b/c/d", "a/b/c", "a/b/e/f", "a/b", "a", "a//", "a/$/c", "/", "/b"}
	for set := range 1 << len(topics) {
		up, down, m := rettrie.New(), rettrie.New(), model{}
		for i, s := range topics {
			if set>>i&1 == 1 {
				mustPut(t, up, m, plain(s))
			}
		}
		for i := range topics {
			if j := len(topics) - 1 - i; set>>j&1 == 1 {
				down.Put(plain(topics[j]))
			}
		}
		holdTree(t, up, m)
		holdTree(t, down, m)
		for i, s := range topics {
			mustDrop(t, up, m, s)
			holdTree(t, up, m)
			if set>>i&1 == 1 {
				mustPut(t, up, m, plain(s))
			}
		}
		holdAll(t, up, m, topics, nil)
	}
}

// TestEachOrder: P9.8: in which order topics are laid down and taken away shows nowhere.
func TestEachOrder(t *testing.T) {
	topics := []string{"a/b/c", "a/b/d", "a/b", "a/c", "/b", "a"}
	orders := [][]int{{}}
	for len(orders[0]) < len(topics) {
		var longer [][]int
		for _, o := range orders {
			for i := range topics {
				if !slices.Contains(o, i) {
					longer = append(longer, append(slices.Clone(o), i))
				}
			}
		}
		orders = longer
	}
	filters := fewFilters(3)
	for n, o := range orders {
		x, m := rettrie.New(), model{}
		for _, i := range o {
			x.Put(plain("a/b/c"))
			m.put(plain("a/b/c"))
			mustPut(t, x, m, plain(topics[i]))
			holdTree(t, x, m)
		}
		if n%10 == 0 {
			holdAll(t, x, m, topics, filters)
		}
		for _, i := range o {
			mustDrop(t, x, m, topics[i])
			holdTree(t, x, m)
		}
	}
}

// TestStandsAsBefore: P9.7, behind Drop, in any order, of what Put laid down.
func TestStandsAsBefore(t *testing.T) {
	r := rand.New(rand.NewSource(97))
	topics := fewTopics(4)
	for range 150 {
		x, m := laid(t, r, topics, r.Intn(20))
		before, all := drawn(x.Shape()), given(x.All())
		var new []string
		for range r.Intn(30) {
			s := someOf(r, topics)
			if _, there := m[s]; !there {
				x.Put(some(r, s))
				new = append(new, s)
			}
		}
		r.Shuffle(len(new), func(i, j int) { new[i], new[j] = new[j], new[i] })
		for _, s := range new {
			x.Drop(s)
		}
		if drawn(x.Shape()) != before || given(x.All()) != all {
			t.Errorf("P9.7: behind Put and Drop of %q it stands otherwise:\n%s\nahead:\n%s", new, drawn(x.Shape()), before)
		}
		holdTree(t, x, m)
	}
}

// TestLongEdges: edges of as many levels as there may be, parted near both ends and joined again.
func TestLongEdges(t *testing.T) {
	long := strings.Repeat("/", maxText)
	x, m := rettrie.New(), model{}
	parts := []string{long, long[:1], long[:2], long[:maxText-1], long[:maxText/2] + "a", long[:maxText/2] + "b", long[:maxText-1] + "c"}
	for _, s := range parts {
		mustPut(t, x, m, plain(s))
		holdTree(t, x, m)
	}
	holdAll(t, x, m, parts, nil)
	for _, s := range parts[1:] {
		mustDrop(t, x, m, s)
		holdTree(t, x, m)
	}
	if got := x.Shape().Kids; len(got) != 1 || len(got[0].Levels) != maxText+1 {
		t.Error("P9.5: it isn't one edge again")
	}
}

// TestDeepTree: nodes below one another, thousands of them.
func TestDeepTree(t *testing.T) {
	const depth = 6000
	text := strings.Repeat("/", depth)
	x := rettrie.New()
	for i := range depth {
		x.Put(plain(text[:(i*7)%depth+1]))
	}
	if x.Len() != depth || x.Nodes() != depth+1 {
		t.Fatalf("P9.5: Len %d, Nodes %d", x.Len(), x.Nodes())
	}
	c := x.Copy()
	signs := strings.Repeat("+/", depth)
	for f, want := range map[string]int{"#": depth, "+/#": depth, "/#": depth, text: 1, signs + "+": 1, signs[2:] + "+": 1, signs + "#": 2, signs[2:] + "#": 3, signs + "+/+": 0} {
		n := 0
		for m := range x.Find(f) {
			if n++; f == "#" && len(m.Topic) != n {
				t.Fatalf("P9.4: topic %d has %d bytes", n, len(m.Topic))
			}
		}
		if n != want {
			t.Errorf("P9.4: Find of %d bytes, %.5q: %d, want %d", len(f), f, n, want)
		}
	}
	s := x.Shape()
	n := 0
	for ; len(s.Kids) > 0; n++ {
		s = s.Kids[0]
	}
	if n != depth {
		t.Errorf("P9.5: the tree is %d deep", n)
	}
	for i := range depth {
		if !x.Drop(text[:i+1]) {
			t.Fatalf("P9.3: Drop of %d levels", i+2)
		}
	}
	if x.Len() != 0 || x.Nodes() != 1 || c.Len() != depth || c.Nodes() != depth+1 {
		t.Errorf("P9.7: Len %d, Nodes %d; of the copy: %d, %d", x.Len(), x.Nodes(), c.Len(), c.Nodes())
	}
}

func TestManyTopics(t *testing.T) {
	x, m := rettrie.New(), model{}
	names := joined(3, "a", "b", "c", "d", "e", "f", "g", "h", "i", "j", "k", "l")
	for _, s := range names {
		mustPut(t, x, m, plain(s))
	}
	holdAll(t, x, m, names, []string{"#", "+", "a/+", "+/a", "+/+/a", "+/a/+", "a/a/#", "a/+/a"})
	for i, s := range names {
		if i%3 > 0 {
			mustDrop(t, x, m, s)
		}
	}
	holdAll(t, x, m, names, []string{"#", "+/a/#", "+/+/b"})
	for _, s := range names {
		mustDrop(t, x, m, s)
	}
	holdTree(t, x, m)
}

func TestRandomLife(t *testing.T) {
	r := rand.New(rand.NewSource(95))
	topics := append(fewTopics(3), "a/b/a/b", "a/b/a/b/a", "a/b/b/a", "a/b/b/b/b", "a/a/$/$")
	filters := fewFilters(3)
	for range 30 {
		x, m := rettrie.New(), model{}
		for range 200 {
			step(t, r, x, m, topics)
			f := someOf(r, filters)
			holdAll(t, x, m, []string{someOf(r, topics)}, []string{f})
		}
	}
}
