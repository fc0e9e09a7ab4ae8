package subtrie_test

import (
	"math/rand"
	"slices"
	"strings"
	"testing"

	"crier/subtrie"
)

func TestExample(t *testing.T) {
	x, m := subtrie.New(), model{}
	nodes := func(want int) {
		t.Helper()
		holdTree(t, x, m)
		if x.Nodes() != want {
			t.Errorf("P7.6: Nodes: %d, want %d", x.Nodes(), want)
		}
	}
	mustPut(t, x, m, "a/b/c", "x", 1)
	nodes(2)
	mustPut(t, x, m, "a/b/d", "y", 2)
	nodes(4)
	mustPut(t, x, m, "a/b", "x", 0)
	nodes(4)
	mustPut(t, x, m, "a/b", "x", 2)
	nodes(4)
	mustDrop(t, x, m, "a/b/d", "y")
	nodes(3)
	mustDrop(t, x, m, "a/b", "x")
	nodes(2)
	mustDrop(t, x, m, "a/b/c", "x")
	nodes(1)
}

// TestEachSet: all sets of filters that part one another's edges, laid down in two orders, and each one taken away again.
func TestEachSet(t *testing.T) {
	filters := []string{"a/b/c/d", "a/b/c", "a/b/e/f", "a/b", "a", "a/#", "a/+/c", "/", "/b"}
	for set := range 1 << len(filters) {
		up, down, m := subtrie.New(), subtrie.New(), model{}
		for i := range filters {
			if set>>i&1 == 1 {
				mustPut(t, up, m, filters[i], "x", i%3)
			}
		}
		for i := range filters {
			if j := len(filters) - 1 - i; set>>j&1 == 1 {
				down.Put(filters[j], "x", j%3)
			}
		}
		holdTree(t, up, m)
		holdTree(t, down, m)
		for i, f := range filters {
			mustDrop(t, up, m, f, "x")
			holdTree(t, up, m)
			if set>>i&1 == 1 {
				mustPut(t, up, m, f, "x", i%3)
			}
		}
		holdTree(t, up, m)
	}
}

// TestEachOrder: in which order filters are laid down and taken away shows nowhere.
func TestEachOrder(t *testing.T) {
	filters := []string{"a/b/c", "a/b/d", "a/b", "a/+/c", "#", "+/b"}
	orders := [][]int{{}}
	for len(orders[0]) < len(filters) {
		var longer [][]int
		for _, o := range orders {
			for i := range filters {
				if !slices.Contains(o, i) {
					longer = append(longer, append(slices.Clone(o), i))
				}
			}
		}
		orders = longer
	}
	topics := fewTopics(3)
	for n, o := range orders {
		x, m := subtrie.New(), model{}
		for i, f := range o {
			for _, key := range []string{"x", "y"} {
				mustPut(t, x, m, filters[f], key, (f+i)%3)
				mustPut(t, x, m, filters[f], key, (f+len(key))%3)
			}
		}
		if n%10 == 0 {
			holdAll(t, x, m, filters, topics)
		}
		for _, f := range o {
			mustDrop(t, x, m, filters[f], "y")
			mustDrop(t, x, m, filters[f], "x")
			holdTree(t, x, m)
		}
	}
}

// TestStandsAsBefore: P7.9, behind Drop and behind Leave.
func TestStandsAsBefore(t *testing.T) {
	r := rand.New(rand.NewSource(79))
	filters := fewFilters(4)
	for range 100 {
		x, m := laid(t, r, filters, r.Intn(20))
		before, all := drawn(x.Shape()), given(x)
		var new []string
		for range r.Intn(30) {
			f := someOf(r, filters)
			x.Put(f, "new", r.Intn(3))
			new = append(new, f)
		}
		if r.Intn(2) == 0 {
			x.Leave("new")
		} else {
			for _, f := range new {
				x.Drop(f, "new")
			}
		}
		if drawn(x.Shape()) != before || given(x) != all {
			t.Errorf("P7.9: behind Put and Drop or Leave of %q it stands otherwise:\n%s\nahead:\n%s", new, drawn(x.Shape()), before)
		}
		holdTree(t, x, m)
	}
}

// TestLongEdges: edges of as many levels as there may be, parted near both ends and joined again.
func TestLongEdges(t *testing.T) {
	long := strings.Repeat("/", maxText)
	x, m := subtrie.New(), model{}
	parts := []string{long, long[:1], long[:2], long[:maxText-1], long[:maxText/2] + "a", long[:maxText/2] + "b", long[:maxText-1] + "+"}
	for _, f := range parts {
		mustPut(t, x, m, f, "x", 1)
		holdTree(t, x, m)
	}
	for _, f := range parts[1:] {
		mustDrop(t, x, m, f, "x")
		holdTree(t, x, m)
	}
	if got := x.Shape().Kids; len(got) != 1 || len(got[0].Levels) != maxText+1 {
		t.Error("P7.6: it isn't one edge again")
	}
	for _, f := range parts {
		mustPut(t, x, m, f, "y", 1)
	}
	mustLeave(t, x, m, "y")
	holdTree(t, x, m)
}

func TestManyFilters(t *testing.T) {
	x, m := subtrie.New(), model{}
	names := joined(3, "a", "b", "c", "d", "e", "f", "g", "h", "i", "j", "k", "l")
	for i, f := range names {
		mustPut(t, x, m, f, names[i%50], i%3)
	}
	holdTree(t, x, m)
	for i, f := range names {
		if i%3 > 0 {
			mustDrop(t, x, m, f, names[i%50])
		}
	}
	holdAll(t, x, m, names[:200], names[:100])
	for i := range 50 {
		mustLeave(t, x, m, names[i])
	}
	holdTree(t, x, m)
}

func TestRandomLife(t *testing.T) {
	r := rand.New(rand.NewSource(76))
	filters := append(fewFilters(3), "a/b/a/b", "a/b/a/b/a", "a/b/b/a", "a/b/b/b/b", "a/a/+/#")
	for range 30 {
		x, m := subtrie.New(), model{}
		for range 200 {
			step(t, r, x, m, filters)
			holdTree(t, x, m)
		}
	}
}

// step does one thing to a trie and to its model.
func step(t *testing.T, r *rand.Rand, x *subtrie.Trie, m model, filters []string) {
	t.Helper()
	f, key := someOf(r, filters), someOf(r, fewKeys())
	switch n := r.Intn(20); {
	case n < 9:
		mustPut(t, x, m, f, key, r.Intn(3))
	case n < 10:
		mustDrop(t, x, m, f, key)
	case n < 19:
		for have, keys := range m {
			for k := range keys {
				mustDrop(t, x, m, have, k)
				return
			}
		}
	default:
		mustLeave(t, x, m, key)
	}
}
