package subtrie_test

import (
	"fmt"
	"math/rand"
	"slices"
	"strings"
	"testing"

	"crier/api"
	"crier/subtrie"
)

// TestFindByOneFilter: each filter alone, against each topic.
func TestFindByOneFilter(t *testing.T) {
	topics := fewTopics(4)
	for _, f := range fewFilters(3) {
		x, m := subtrie.New(), model{}
		mustPut(t, x, m, f, "x", 1)
		holdAll(t, x, m, []string{f}, topics)
	}
}

// TestFindByAllFilters: all filters at once, each with a key of its own.
func TestFindByAllFilters(t *testing.T) {
	x, m := subtrie.New(), model{}
	filters := fewFilters(3)
	for i, f := range filters {
		mustPut(t, x, m, f, f, i%3)
	}
	holdAll(t, x, m, filters, fewTopics(4))
}

func TestFindTellsTheGreatest(t *testing.T) {
	matching := []string{"a/b", "a/+", "a/#", "+/b", "+/+", "#", "+/#", "a/b/#"}
	for best := range matching {
		x, m := subtrie.New(), model{}
		for i, f := range matching {
			mustPut(t, x, m, f, "all", 0)
			mustPut(t, x, m, f, "one", map[bool]int{true: 2, false: 1}[i == best])
			mustPut(t, x, m, f, fmt.Sprint("own", i), i%3)
		}
		mustPut(t, x, m, "a/b/+", "one", 2)
		mustPut(t, x, m, "a", "other", 2)
		got := x.Find("a/b")
		if !slices.Contains(got, api.Entry{Key: "one", QoS: 2}) || !slices.Contains(got, api.Entry{Key: "all", QoS: 0}) || len(got) != 2+len(matching) {
			t.Errorf("P7.5: Find: %v", got)
		}
		x.Put(matching[best], "one", 0)
		if got := x.Find("a/b"); !slices.Contains(got, api.Entry{Key: "one", QoS: 1}) {
			t.Errorf("P7.5: Find, the greatest one being less now: %v", got)
		}
	}
}

func TestFindOfNoTopic(t *testing.T) {
	x := subtrie.New()
	for _, f := range fewFilters(3) {
		x.Put(f, "x", 1)
	}
	for _, s := range append(wrong(), "+", "#", "a/+", "a/#", "+/a", "$/#", strings.Repeat("a", maxText+1)) {
		if got := x.Find(s); len(got) != 0 {
			t.Errorf("P7.5: Find(%.20q): %v", s, got)
		}
	}
}

func TestFindOfHiddenTopics(t *testing.T) {
	x := subtrie.New()
	for _, f := range []string{"#", "+", "+/#", "+/b", "+/+", "/#", "$", "$/b", "$/+", "$/#", "$a/#", "$a/+", "a/#"} {
		x.Put(f, f, 1)
	}
	for s, want := range map[string][]string{
		"$": {"$", "$/#"}, "$/b": {"$/#", "$/+", "$/b"}, "$a": {"$a/#"}, "$a/b": {"$a/#", "$a/+"},
		"a/$": {"#", "+/#", "+/+", "a/#"}, "/$": {"#", "+/#", "+/+", "/#"},
	} {
		var got []string
		for _, e := range x.Find(s) {
			got = append(got, e.Key)
		}
		if !slices.Equal(got, want) {
			t.Errorf("P7.5: Find(%q): %q, want %q", s, got, want)
		}
	}
}

func TestFindAtTheEdges(t *testing.T) {
	x, m := subtrie.New(), model{}
	deep := strings.Repeat("/", maxText)
	for _, f := range []string{deep, deep[:maxText-2] + "/#", deep[:maxText-1] + "+", strings.Repeat("+/", maxText/2) + "+", strings.Repeat("+/", maxText/2) + "#", "#", "/#", strings.Repeat("a", maxText)} {
		mustPut(t, x, m, f, fmt.Sprint(len(m)), len(m)%3)
	}
	for _, s := range []string{deep, deep[1:], deep[2:], deep[:maxText/2], deep[:maxText-1] + "a", strings.Repeat("a", maxText), strings.Repeat("a", maxText-1)} {
		if got, want := x.Find(s), m.find(s); !slices.Equal(got, want) {
			t.Errorf("P7.5: Find of %d bytes, %.5q: %v, want %v", len(s), s, got, want)
		}
	}
}

// TestFindAtRandom: P7.10, with several keys at several filters.
func TestFindAtRandom(t *testing.T) {
	r := rand.New(rand.NewSource(710))
	filters, topics := fewFilters(4), fewTopics(4)
	for range 40 {
		x, m := laid(t, r, filters, 1+r.Intn(80))
		some := make([]string, 150)
		for i := range some {
			some[i] = someOf(r, topics)
		}
		holdAll(t, x, m, nil, some)
	}
}
