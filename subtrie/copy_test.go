package subtrie_test

import (
	"fmt"
	"math/rand"
	"slices"
	"strings"
	"sync"
	"testing"

	"crier/api"
	"crier/subtrie"
)

// TestEachChangeOfACopy: each single change, of the copy and of the one that it was made of.
func TestEachChangeOfACopy(t *testing.T) {
	filters := []string{"a/b/c", "a/b/d", "a/b", "a/b/c/d", "a", "+/b", "#", "a/c", "b"}
	for set := range 1 << 6 {
		for change := range 2*len(filters) + 2 {
			for side := range 2 {
				var x [2]*subtrie.Trie
				x[0] = subtrie.New()
				m := [2]model{{}, {}}
				for i := range 6 {
					if set>>i&1 == 1 {
						mustPut(t, x[0], m[0], filters[i], fmt.Sprint("x", i%2), i%3)
					}
				}
				x[1], m[1] = x[0].Copy(), m[0].copied()
				switch f := filters[change/2%len(filters)]; {
				case change >= 2*len(filters):
					mustLeave(t, x[side], m[side], fmt.Sprint("x", change%2))
				case change%2 == 0:
					mustPut(t, x[side], m[side], f, "x0", 1)
				default:
					mustDrop(t, x[side], m[side], f, "x0")
				}
				holdTree(t, x[0], m[0])
				holdTree(t, x[1], m[1])
			}
		}
	}
}

// TestCopiesOfCopies: several tries that share what they can, each against its own model.
func TestCopiesOfCopies(t *testing.T) {
	r := rand.New(rand.NewSource(78))
	filters := append(fewFilters(3), "a/b/a/b", "a/b/a/b/a", "a/b/b/a")
	topics := fewTopics(3)
	for range 12 {
		x, m := make([]*subtrie.Trie, 5), make([]model, 5)
		for i := range x {
			x[i], m[i] = subtrie.New(), model{}
		}
		for range 250 {
			i, j := r.Intn(len(x)), r.Intn(len(x))
			if r.Intn(12) == 0 {
				x[i], m[i] = x[j].Copy(), m[j].copied()
			}
			step(t, r, x[i], m[i], filters)
			for k := range x {
				if got, want := given(x[k]), m[k].all(); got != want {
					t.Fatalf("P7.8: All of %d behind a change of %d:\n%s\nwant:\n%s", k, i, got, want)
				}
				if x[k].Len() != len(m[k]) {
					t.Fatalf("P7.8: Len of %d behind a change of %d: %d", k, i, x[k].Len())
				}
			}
		}
		for k := range x {
			holdAll(t, x[k], m[k], filters, topics[:100])
		}
	}
}

// TestCopyWithinAll: a copy may be made, and changed, while the trie is gone through.
func TestCopyWithinAll(t *testing.T) {
	r := rand.New(rand.NewSource(87))
	x, m := laid(t, r, fewFilters(3), 40)
	got := ""
	for f, e := range x.All() {
		got += fmt.Sprintf("%q %q %d\n", f, e.Key, e.QoS)
		c := x.Copy()
		c.Drop(f, e.Key)
		c.Put("new", "x", 1)
		c.Leave(e.Key)
	}
	if got != m.all() {
		t.Errorf("P7.8: All, with copies made on the way:\n%s", got)
	}
	holdTree(t, x, m)
}

// TestCopiesAtOnce: copies that are changed at the same time, each by a goroutine of its own, don't show in one another.
func TestCopiesAtOnce(t *testing.T) {
	r := rand.New(rand.NewSource(88))
	filters := fewFilters(3)
	x, m := laid(t, r, filters, 100)
	var wait sync.WaitGroup
	for i := range 8 {
		c, mine := x.Copy(), m.copied()
		wait.Go(func() {
			r := rand.New(rand.NewSource(int64(i)))
			for range 300 {
				step(t, r, c, mine, filters)
			}
			holdTree(t, c, mine)
		})
	}
	for range 20 {
		holdTree(t, x, m)
	}
	wait.Wait()
	holdTree(t, x, m)
}

func TestTriesApart(t *testing.T) {
	x, y := subtrie.New(), subtrie.New()
	x.Put("a/b", "x", 1)
	if y.Len() != 0 || y.Nodes() != 1 || len(y.Find("a/b")) != 0 {
		t.Error("P7.8: what is put in one trie shows in another one")
	}
}

// overwrite writes over a list of entries and over its spare room.
func overwrite(l []api.Entry) {
	l = l[:cap(l)]
	for i := range l {
		l[i] = api.Entry{Key: "spoilt", QoS: 99}
	}
}

// spoil writes over all lists of a tree and over their spare room.
func spoil(s *api.Shape) {
	for i := range s.Kids {
		spoil(&s.Kids[i])
	}
	overwrite(s.Entries)
	for i := range s.Levels[:cap(s.Levels)] {
		s.Levels[:cap(s.Levels)][i] = "spoilt"
	}
	kids := s.Kids[:cap(s.Kids)]
	for i := range kids {
		kids[i] = api.Shape{Here: true}
	}
}

// TestAnswersWrittenOver: rule 3 of P7.4, P7.5, P7.7: what was handed out is the caller's.
func TestAnswersWrittenOver(t *testing.T) {
	r := rand.New(rand.NewSource(73))
	x, m := laid(t, r, fewFilters(3), 60)
	c := x.Copy()
	filters, topics := fewFilters(3), fewTopics(3)
	for _, f := range filters {
		kept := x.Of(f)
		overwrite(x.Of(f))
		overwrite(c.Of(f))
		if !slices.Equal(kept, byKey(m[f])) {
			t.Errorf("P7.4: Of(%q) shares memory with another answer", f)
		}
	}
	for _, s := range topics {
		kept := x.Find(s)
		overwrite(x.Find(s))
		overwrite(c.Find(s))
		if !slices.Equal(kept, m.find(s)) {
			t.Errorf("P7.5: Find(%q) shares memory with another answer", s)
		}
	}
	kept := x.Shape()
	for _, y := range []*subtrie.Trie{x, c} {
		s := y.Shape()
		spoil(&s)
	}
	if drawn(kept) != drawn(m.shape()) {
		t.Error("P7.7: Shape shares memory with another answer")
	}
	holdAll(t, x, m, filters, topics)
	holdAll(t, c, m, filters, topics)
}

// tags visits all lists of a tree, their spare room included, each with a number of its own.
func tags(s *api.Shape, n *int, visit func(level *string, e *api.Entry, spare *api.Shape, tag string)) {
	*n++
	tag := fmt.Sprint(*n)
	for i := range s.Levels[:cap(s.Levels)] {
		visit(&s.Levels[:cap(s.Levels)][i], nil, nil, tag)
	}
	for i := range s.Entries[:cap(s.Entries)] {
		visit(nil, &s.Entries[:cap(s.Entries)][i], nil, tag)
	}
	for i := len(s.Kids); i < cap(s.Kids); i++ {
		visit(nil, nil, &s.Kids[:cap(s.Kids)][i], tag)
	}
	for i := range s.Kids {
		tags(&s.Kids[i], n, visit)
	}
}

// TestListsOfOneShape: no two lists of one Shape share memory, spare room included.
func TestListsOfOneShape(t *testing.T) {
	x := subtrie.New()
	for _, f := range []string{strings.Repeat("a/", 9) + "b", strings.Repeat("a/", 9) + "c", "a/a/a", "a/a", "b/c/d", "b/c/e", "b/c/f"} {
		x.Put(f, "x", 1)
		x.Put(f, "y", 1)
	}
	s, n := x.Shape(), 0
	tags(&s, &n, func(level *string, e *api.Entry, spare *api.Shape, tag string) {
		switch {
		case level != nil:
			*level = tag
		case e != nil:
			e.Key = tag
		default:
			spare.Levels = []string{tag}
		}
	})
	n = 0
	tags(&s, &n, func(level *string, e *api.Entry, spare *api.Shape, tag string) {
		if level != nil && *level != tag || e != nil && e.Key != tag || spare != nil && spare.Levels[0] != tag {
			t.Errorf("P7.7: lists of node %s share memory with another one's", tag)
		}
	})
}
