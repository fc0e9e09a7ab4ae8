package rettrie_test

import (
	"math/rand"
	"slices"
	"strings"
	"testing"

	"crier/api"
	"crier/rettrie"
)

func TestExample1(t *testing.T) {
	x, m := rettrie.New(), model{}
	for _, s := range []string{"a", "a/b", "b", "$a"} {
		mustPut(t, x, m, plain(s))
	}
	for f, want := range map[string][]string{"#": {"a", "a/b", "b"}, "a/#": {"a", "a/b"}, "+": {"a", "b"}, "$a/#": {"$a"}} {
		if got := found(x, f); !slices.Equal(got, want) {
			t.Errorf("P9.4: Find(%q): %q, want %q", f, got, want)
		}
	}
	var all []string
	for m := range x.All() {
		all = append(all, m.Topic)
	}
	if !slices.Equal(all, []string{"$a", "a", "a/b", "b"}) {
		t.Errorf("P9.4: All: %q", all)
	}
	if x.Nodes() != 5 {
		t.Errorf("P9.5: Nodes: %d, want 5", x.Nodes())
	}
	if !x.Drop("a") || x.Nodes() != 4 || !slices.Equal(x.Shape().Kids[1].Levels, []string{"a", "b"}) {
		t.Errorf("P9.5: behind Drop: Nodes %d, %s", x.Nodes(), drawn(x.Shape()))
	}
}

// found tells the topics that Find gives.
func found(x *rettrie.Trie, filter string) []string {
	var l []string
	for m := range x.Find(filter) {
		l = append(l, m.Topic)
	}
	return l
}

// TestFindOfOneTopic: each topic alone, by each filter.
func TestFindOfOneTopic(t *testing.T) {
	filters := fewFilters(4)
	for _, s := range fewTopics(3) {
		x, m := rettrie.New(), model{}
		mustPut(t, x, m, plain(s))
		holdAll(t, x, m, []string{s}, filters)
	}
}

// TestFindOfAllTopics: all topics at once.
func TestFindOfAllTopics(t *testing.T) {
	x, m := rettrie.New(), model{}
	for _, s := range fewTopics(3) {
		mustPut(t, x, m, plain(s))
	}
	holdAll(t, x, m, fewTopics(3), fewFilters(4))
}

// TestFindAtRandom: P9.8, by filters of all lengths, of topics that part one another's edges or don't.
func TestFindAtRandom(t *testing.T) {
	r := rand.New(rand.NewSource(98))
	topics, filters := fewTopics(5), fewFilters(5)
	for range 60 {
		x, m := laid(t, r, topics, 1+r.Intn(60))
		some := make([]string, 150)
		for i := range some {
			some[i] = someOf(r, filters)
		}
		holdAll(t, x, m, nil, some)
	}
}

// TestFindSignsForLevels: filters that are topics with some levels made signs, so that they match something.
func TestFindSignsForLevels(t *testing.T) {
	r := rand.New(rand.NewSource(99))
	topics := fewTopics(5)
	for range 60 {
		x, m := laid(t, r, topics, 1+r.Intn(60))
		var some []string
		for s := range m {
			for range 4 {
				levels := strings.Split(s, "/")
				for i := range levels {
					if r.Intn(3) == 0 {
						levels[i] = "+"
					}
				}
				some = append(some, strings.Join(levels, "/"))
				n := r.Intn(len(levels) + 1)
				some = append(some, strings.Join(append(levels[:n:n], "#"), "/"))
			}
		}
		holdAll(t, x, m, nil, some)
	}
}

func TestFindOfNoFilter(t *testing.T) {
	x := rettrie.New()
	for _, s := range append(fewTopics(3), strings.Repeat("a", maxText)) {
		x.Put(plain(s))
	}
	for _, f := range noFilter() {
		if got := found(x, f); len(got) != 0 {
			t.Errorf("P9.4: Find(%.20q): %q", f, got)
		}
	}
}

func TestFindOfHiddenTopics(t *testing.T) {
	x := rettrie.New()
	for _, s := range []string{"$", "$a", "$a/b", "$/b", "a/$", "/$", "$a/b/c", "$$", "b"} {
		x.Put(plain(s))
	}
	for f, want := range map[string][]string{
		"#": {"/$", "a/$", "b"}, "+": {"b"}, "+/#": {"/$", "a/$", "b"}, "+/b": nil, "+/+": {"/$", "a/$"}, "+/$": {"/$", "a/$"},
		"$": {"$"}, "$/#": {"$", "$/b"}, "$/+": {"$/b"}, "$a/#": {"$a", "$a/b", "$a/b/c"}, "$a/+": {"$a/b"}, "$a/+/+": {"$a/b/c"}, "$$/#": {"$$"}, "/+": {"/$"}, "a/#": {"a/$"},
	} {
		if got := found(x, f); !slices.Equal(got, want) {
			t.Errorf("P9.4: Find(%q): %q, want %q", f, got, want)
		}
	}
}

func TestAllInOrder(t *testing.T) {
	x := rettrie.New()
	want := []string{"/a", "\x01", "$a", "a", "a/", "a//", "a/b", "a/b/c", "a\x01", "a.b", "ab", "b", "\u00E4", "\U00010000"}
	for i := range want {
		x.Put(plain(want[(i*5+3)%len(want)]))
	}
	var got []string
	for m := range x.All() {
		got = append(got, m.Topic)
	}
	if !slices.Equal(got, want) {
		t.Errorf("P9.4: All: %q, want %q", got, want)
	}
	if got := found(x, "#"); !slices.Equal(got, slices.Delete(slices.Clone(want), 2, 3)) {
		t.Errorf("P9.4: Find(#): %q", got)
	}
}

func TestFindAtTheEdges(t *testing.T) {
	x, m := rettrie.New(), model{}
	deep := strings.Repeat("/", maxText)
	for _, s := range []string{deep, deep[1:], deep[2:], deep[:maxText/2], deep[:maxText-1] + "a", strings.Repeat("a", maxText), strings.Repeat("a", maxText-1), strings.Repeat("a/", maxText/2) + "a"} {
		mustPut(t, x, m, plain(s))
	}
	signs := strings.Repeat("+/", maxText/2)
	for _, f := range []string{deep, deep[1:], deep[3:], deep[:maxText-2] + "/#", deep[:maxText-1] + "+", deep[:maxText-1] + "#", signs + "+", signs + "#", signs[:maxText-1], "#", "+", "/#", "+/#", strings.Repeat("a", maxText), strings.Repeat("a", maxText-2) + "/#"} {
		if got, want := given(x.Find(f)), m.find(f); got != want {
			t.Errorf("P9.4: Find of %d bytes, %.5q: %d bytes, want %d", len(f), f, len(got), len(want))
		}
	}
}

// walks tells iterators of all kinds, and what each is to give.
func walks(x *rettrie.Trie, m model) map[string]func() (func(func(api.Message) bool), string) {
	w := map[string]func() (func(func(api.Message) bool), string){
		"All": func() (func(func(api.Message) bool), string) { return x.All(), m.all() },
	}
	for _, f := range []string{"#", "+", "+/+", "a/#", "a/+", "+/a/#", "+/+/+", "a/+/b", "+/b", "$/#", "a"} {
		w["Find("+f+")"] = func() (func(func(api.Message) bool), string) { return x.Find(f), m.find(f) }
	}
	return w
}

// TestLeftEarly: an iterator is left behind each of its messages, and asked for no more.
func TestLeftEarly(t *testing.T) {
	x, m := rettrie.New(), model{}
	for _, s := range fewTopics(3) {
		mustPut(t, x, m, plain(s))
	}
	for name, walk := range walks(x, m) {
		all, want := walk()
		lines := strings.SplitAfter(want, "\n")
		for enough := 1; enough < len(lines); enough++ {
			got, asked := "", 0
			all(func(m api.Message) bool {
				asked++
				got += line(m)
				return asked < enough
			})
			if asked != enough || got != strings.Join(lines[:enough], "") {
				t.Fatalf("P9.4: %s, left behind %d: %d times asked\n%s", name, enough, asked, got)
			}
		}
	}
}

// TestWithinItself: an iterator is gone through again, and within itself.
func TestWithinItself(t *testing.T) {
	r := rand.New(rand.NewSource(94))
	x, m := laid(t, r, fewTopics(3), 40)
	for name, walk := range walks(x, m) {
		all, want := walk()
		outer := ""
		for one := range all {
			if inner := given(all); inner != want {
				t.Fatalf("P9.4: %s within itself:\n%s", name, inner)
			}
			for range all {
				break
			}
			outer += line(one)
		}
		if outer != want {
			t.Errorf("P9.4: %s around itself:\n%s", name, outer)
		}
		if again := given(all); again != want {
			t.Errorf("P9.4: %s again:\n%s", name, again)
		}
	}
}

// TestGivesWhatIsHeldThen: rule 7: what counts is what the trie holds when it is gone through.
func TestGivesWhatIsHeldThen(t *testing.T) {
	x, m := rettrie.New(), model{}
	all, some := x.All(), x.Find("a/#")
	hold := func(when string) {
		t.Helper()
		if got := given(all); got != m.all() {
			t.Errorf("P9.4: All, asked for ahead of %s:\n%s", when, got)
		}
		if got := given(some); got != m.find("a/#") {
			t.Errorf("P9.4: Find, asked for ahead of %s:\n%s", when, got)
		}
	}
	hold("nothing")
	mustPut(t, x, m, plain("a"))
	hold("Put")
	x.Copy().Put(plain("b"))
	mustPut(t, x, m, plain("a/b"))
	mustPut(t, x, m, api.Message{Topic: "a", Payload: []byte("new"), QoS: 2})
	hold("Copy")
	mustDrop(t, x, m, "a")
	hold("Drop")
	mustDrop(t, x, m, "a/b")
	hold("the last Drop")
}
