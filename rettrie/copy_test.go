package rettrie_test

import (
	"fmt"
	"maps"
	"math/rand"
	"strings"
	"sync"
	"testing"

	"crier/api"
	"crier/rettrie"
)

// TestEachChangeOfACopy: each single change, of the copy and of the one that it was made of.
func TestEachChangeOfACopy(t *testing.T) {
	topics := []string{"a/b/c", "a/b/d", "a/b", "a/b/c/d", "a", "/b", "$", "a/c", "b"}
	for set := range 1 << 6 {
		for change := range 2 * len(topics) {
			for side := range 2 {
				var x [2]*rettrie.Trie
				x[0] = rettrie.New()
				m := [2]model{{}, {}}
				for i := range 6 {
					if set>>i&1 == 1 {
						mustPut(t, x[0], m[0], plain(topics[i]))
					}
				}
				x[1], m[1] = x[0].Copy(), maps.Clone(m[0])
				if s := topics[change/2]; change%2 == 0 {
					mustPut(t, x[side], m[side], api.Message{Topic: s, Payload: []byte("new"), QoS: 2, Retain: true})
				} else {
					mustDrop(t, x[side], m[side], s)
				}
				holdAll(t, x[0], m[0], topics, nil)
				holdAll(t, x[1], m[1], topics, nil)
			}
		}
	}
}

// TestEdgesJoinedInBoth: one edge, of any length, joined in both with what is left below it in each.
func TestEdgesJoinedInBoth(t *testing.T) {
	for n := range 80 {
		way := strings.Repeat("a/", n)
		x, m := rettrie.New(), model{}
		mustPut(t, x, m, plain(way+"b"))
		mustPut(t, x, m, plain(way+"c"))
		y, other := x.Copy(), maps.Clone(m)
		mustDrop(t, x, m, way+"c")
		mustDrop(t, y, other, way+"b")
		holdAll(t, x, m, []string{way + "b", way + "c"}, nil)
		holdAll(t, y, other, []string{way + "b", way + "c"}, nil)
	}
}

// TestCopiesOfCopies: several tries, each against its own model.
func TestCopiesOfCopies(t *testing.T) {
	r := rand.New(rand.NewSource(96))
	topics := append(fewTopics(3), "a/b/a/b", "a/b/a/b/a", "a/b/b/a")
	for range 10 {
		x, m := make([]*rettrie.Trie, 5), make([]model, 5)
		for i := range x {
			x[i], m[i] = rettrie.New(), model{}
		}
		for range 200 {
			i, j := r.Intn(len(x)), r.Intn(len(x))
			if r.Intn(12) == 0 {
				x[i], m[i] = x[j].Copy(), maps.Clone(m[j])
			}
			step(t, r, x[i], m[i], topics)
			for k := range x {
				if got, want := given(x[k].All()), m[k].all(); got != want {
					t.Fatalf("P9.6: All of %d behind a change of %d:\n%s\nwant:\n%s", k, i, got, want)
				}
				holdTree(t, x[k], m[k])
			}
		}
	}
}

// TestCopyWithinAWalk: a copy may be made, and changed, while the trie is gone through.
func TestCopyWithinAWalk(t *testing.T) {
	r := rand.New(rand.NewSource(961))
	x, m := laid(t, r, fewTopics(3), 40)
	got := ""
	for one := range x.Find("#") {
		got += line(one)
		c := x.Copy()
		c.Drop(one.Topic)
		c.Put(plain("new"))
		c.Put(plain(one.Topic + "/new"))
	}
	if got != m.find("#") {
		t.Errorf("P9.6: Find, with copies made on the way:\n%s", got)
	}
	holdTree(t, x, m)
}

// TestCopiesAtOnce: copies that are made and changed at the same time, each by a goroutine of its own, don't show in one another.
func TestCopiesAtOnce(t *testing.T) {
	r := rand.New(rand.NewSource(962))
	topics := fewTopics(3)
	x, m := laid(t, r, topics, 100)
	var wait sync.WaitGroup
	for i := range 8 {
		wait.Go(func() {
			c, mine := x.Copy(), maps.Clone(m)
			r := rand.New(rand.NewSource(int64(i)))
			for range 300 {
				step(t, r, c, mine, topics)
			}
			holdAll(t, c, mine, topics, nil)
		})
	}
	for range 20 {
		holdTree(t, x, m)
	}
	wait.Wait()
	holdAll(t, x, m, topics, nil)
}

// spoil writes over all lists of a tree and over their spare room.
func spoil(s *api.Shape) {
	for i := range s.Kids {
		spoil(&s.Kids[i])
	}
	for i := range s.Levels[:cap(s.Levels)] {
		s.Levels[:cap(s.Levels)][i] = "spoilt"
	}
	kids := s.Kids[:cap(s.Kids)]
	for i := range kids {
		kids[i] = api.Shape{Levels: []string{"spoilt"}}
	}
}

// TestShapeWrittenOver: rule 3 of P9.5: what was handed out is the caller's.
func TestShapeWrittenOver(t *testing.T) {
	r := rand.New(rand.NewSource(963))
	x, m := laid(t, r, fewTopics(4), 60)
	c := x.Copy()
	kept := x.Shape()
	for _, y := range []*rettrie.Trie{x, c} {
		s := y.Shape()
		spoil(&s)
	}
	if drawn(kept) != drawn(m.shape()) {
		t.Error("P9.5: Shape shares memory with another answer")
	}
	holdAll(t, x, m, fewTopics(4), fewFilters(3))
	holdAll(t, c, m, fewTopics(4), fewFilters(3))
}

// tags visits all lists of a tree, their spare room included, each with a number of its own.
func tags(s *api.Shape, n *int, visit func(level *string, spare *api.Shape, tag string)) {
	*n++
	tag := fmt.Sprint(*n)
	for i := range s.Levels[:cap(s.Levels)] {
		visit(&s.Levels[:cap(s.Levels)][i], nil, tag)
	}
	for i := len(s.Kids); i < cap(s.Kids); i++ {
		visit(nil, &s.Kids[:cap(s.Kids)][i], tag)
	}
	for i := range s.Kids {
		tags(&s.Kids[i], n, visit)
	}
}

// TestListsOfOneShape: no two lists of one Shape share memory, spare room included.
func TestListsOfOneShape(t *testing.T) {
	x := rettrie.New()
	for _, s := range []string{strings.Repeat("a/", 9) + "b", strings.Repeat("a/", 9) + "c", "a/a/a", "a/a", "b/c/d", "b/c/e", "b/c/f"} {
		x.Put(plain(s))
	}
	x.Drop("a/a/a")
	x.Drop("b/c/f")
	s, n := x.Shape(), 0
	tags(&s, &n, func(level *string, spare *api.Shape, tag string) {
		if level != nil {
			*level = tag
			return
		}
		spare.Levels = []string{tag}
	})
	n = 0
	tags(&s, &n, func(level *string, spare *api.Shape, tag string) {
		if level != nil && *level != tag || spare != nil && spare.Levels[0] != tag {
			t.Errorf("P9.5: lists of node %s share memory with another one's", tag)
		}
	})
}
