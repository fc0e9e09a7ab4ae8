package subtrie_test

import (
	"fmt"
	"math/rand"
	"slices"
	"strings"
	"testing"

	"crier/api"
	"crier/subtrie"
)

func TestNothing(t *testing.T) {
	x := subtrie.New()
	holdAll(t, x, model{}, append(wrong(), fewFilters(2)...), append(wrong(), fewTopics(2)...))
	s := x.Shape()
	if len(s.Levels) != 0 || s.Here || len(s.Entries) != 0 || len(s.Kids) != 0 {
		t.Errorf("P7.7: the shape of an empty trie: %v", s)
	}
	if x.All() == nil {
		t.Error("P7.4: All of an empty trie is nil")
	}
	if x.Drop("a", "x") || x.Drop("", "") || x.Leave("x") != 0 || x.Leave("") != 0 {
		t.Error("P7.3: something was taken from an empty trie")
	}
}

func TestPutTells(t *testing.T) {
	x, m := subtrie.New(), model{}
	for _, f := range []string{"a", "a/b", "/", "#", "+/#", "$", strings.Repeat("a", maxText), strings.Repeat("/", maxText), strings.Repeat("+/", maxText/2) + "#"} {
		for _, key := range append(fewKeys(), strings.Repeat("k", maxText+1)) {
			for _, qos := range []int{1, 1, 2, 0, 0} {
				mustPut(t, x, m, f, key, qos)
			}
		}
	}
	if got, want := given(x), m.all(); got != want {
		t.Error("P7.1: All doesn't give what was put")
	}
	holdTree(t, x, m)
}

func TestPutRefuses(t *testing.T) {
	r := rand.New(rand.NewSource(71))
	x, m := laid(t, r, fewFilters(2), 20)
	none := []int{-1, 3, 0x80, 1 << 40, -1 << 63}
	for _, f := range wrong() {
		for _, qos := range append(none, 0, 1, 2) {
			if old, e := x.Put(f, "x", qos); old != 0 || e != api.ErrSubtrieFilter {
				t.Errorf("P7.2: Put(%.20q, .., %d): %d, %d", f, qos, old, e)
			}
		}
	}
	for _, f := range append(fewFilters(2), "c/d/e") {
		for _, qos := range none {
			if old, e := x.Put(f, "x", qos); old != 0 || e != api.ErrSubtrieQoS {
				t.Errorf("P7.2: Put(%.20q, .., %d): %d, %d", f, qos, old, e)
			}
		}
	}
	holdAll(t, x, m, fewFilters(2), nil)
}

func TestDropOfWhatIsNotThere(t *testing.T) {
	x, m := subtrie.New(), model{}
	mustPut(t, x, m, "a/b/c", "x", 1)
	mustPut(t, x, m, "a/b/d", "y", 1)
	mustPut(t, x, m, "/a", "x", 1)
	mustPut(t, x, m, "/b", "x", 1)
	for _, f := range append(wrong(), "a", "a/b", "a/b/c/d", "a/b/e", "a/+/c", "a/#", "/", "a/b/", "b") {
		for _, key := range fewKeys() {
			mustDrop(t, x, m, f, key)
		}
	}
	mustDrop(t, x, m, "a/b/c", "y")
	mustLeave(t, x, m, "z")
	mustLeave(t, x, m, "")
	if x.Len() != 4 {
		t.Errorf("P7.3: Len %d, nothing was there to be dropped", x.Len())
	}
	holdTree(t, x, m)
}

func TestLeave(t *testing.T) {
	x, m := subtrie.New(), model{}
	for i, f := range fewFilters(3) {
		mustPut(t, x, m, f, "x", i%3)
		if i%2 == 0 {
			mustPut(t, x, m, f, "", i%3)
		}
	}
	mustPut(t, x, m, "a/b/c/d", "y", 2)
	for _, key := range []string{"z", "x", "x", "y", "", "", "y"} {
		mustLeave(t, x, m, key)
		holdAll(t, x, m, fewFilters(3), nil)
	}
}

func TestOf(t *testing.T) {
	x, m := subtrie.New(), model{}
	for _, f := range []string{"a/b", "a/+", "a/#", "/a", "/b", "a/b/c/d"} {
		for i, key := range fewKeys() {
			mustPut(t, x, m, f, key, i%3)
		}
	}
	if got, want := x.Of("a/b"), byKey(m["a/b"]); !slices.Equal(got, want) || len(got) != len(fewKeys()) {
		t.Errorf("P7.4: Of: %s, want %s", told(got), told(want))
	}
	for _, f := range append(wrong(), "a", "", "b", "a/b/c", "a/b/c/d/e", "a/c", "/", "#") {
		if got := x.Of(f); len(got) != 0 {
			t.Errorf("P7.4: Of(%.20q): %s", f, told(got))
		}
	}
}

func TestAllInOrder(t *testing.T) {
	x := subtrie.New()
	want := []string{"/a", "#", "$a", "+", "a", "a/", "a/b", "a/b/c", "a.b", "b"}
	for i := range want {
		x.Put(want[(i*7+3)%len(want)], "x", 1)
	}
	var got []string
	for f, e := range x.All() {
		got = append(got, f)
		if e != (api.Entry{Key: "x", QoS: 1}) {
			t.Errorf("P7.4: All gives %v at %q", e, f)
		}
	}
	if !slices.Equal(got, want) {
		t.Errorf("P7.4: All: %q, want %q", got, want)
	}
}

func TestAllIsLeft(t *testing.T) {
	r := rand.New(rand.NewSource(74))
	x, m := laid(t, r, fewFilters(3), 60)
	all := x.All()
	want := m.all()
	lines := strings.Count(want, "\n")
	for enough := 1; enough <= lines; enough++ {
		got, n := "", 0
		for f, e := range all {
			got += fmt.Sprintf("%q %q %d\n", f, e.Key, e.QoS)
			if n++; n == enough {
				break
			}
		}
		if n != enough || !strings.HasPrefix(want, got) {
			t.Fatalf("P7.4: All, left behind %d: %d\n%s", enough, n, got)
		}
	}
	all(func(string, api.Entry) bool { return false })
}

func TestAllWithinAll(t *testing.T) {
	r := rand.New(rand.NewSource(75))
	x, m := laid(t, r, fewFilters(3), 30)
	all := x.All()
	want := m.all()
	outer := ""
	for f, e := range all {
		inner := ""
		for g, d := range all {
			inner += fmt.Sprintf("%q %q %d\n", g, d.Key, d.QoS)
		}
		if inner != want {
			t.Fatalf("P7.4: All within All:\n%s", inner)
		}
		outer += fmt.Sprintf("%q %q %d\n", f, e.Key, e.QoS)
	}
	if outer != want {
		t.Errorf("P7.4: All around All:\n%s", outer)
	}
}

func TestAllGivesWhatIsHeldThen(t *testing.T) {
	x := subtrie.New()
	all := x.All()
	gives := func() string {
		s := ""
		for f, e := range all {
			s += fmt.Sprint(f, e)
		}
		return s
	}
	x.Put("a", "x", 1)
	if got := gives(); got != "a{x 1}" {
		t.Errorf("P7.4: All, asked for ahead of Put: %s", got)
	}
	x.Copy()
	x.Put("a/b", "x", 1)
	x.Put("a", "x", 2)
	if got := gives(); got != "a{x 2}a/b{x 1}" {
		t.Errorf("P7.4: All, asked for ahead of Copy: %s", got)
	}
	x.Leave("x")
	if got := gives(); got != "" {
		t.Errorf("P7.4: All, asked for ahead of Leave: %s", got)
	}
}
