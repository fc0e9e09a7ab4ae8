package topic_test

import (
	"bytes"
	"math/rand"
	"slices"
	"strings"
	"testing"
	"time"

	"crier/topic"
)

// wantOrder: what P5.5 asks of Compare, level by level.
func wantOrder(a, b string) int {
	x, y := cut(a), cut(b)
	for i := range min(len(x), len(y)) {
		if n := bytes.Compare([]byte(x[i]), []byte(y[i])); n != 0 {
			return n
		}
	}
	switch {
	case len(x) < len(y):
		return -1
	case len(x) > len(y):
		return 1
	}
	return 0
}

func holdOrder(t *testing.T, a, b string) {
	t.Helper()
	got := topic.Compare(a, b)
	if want := wantOrder(a, b); got != want {
		t.Errorf("P5.5: Compare(%.30q, %.30q): %d, want %d", a, b, got, want)
	}
	if back := topic.Compare(b, a); back != -got {
		t.Errorf("P5.8: Compare(%.30q, %.30q): %d, and the other way %d", a, b, got, back)
	}
	if (got == 0) != (a == b) {
		t.Errorf("P5.8: Compare(%.30q, %.30q): %d", a, b, got)
	}
}

// P5.5: the chapter's example, with bytes below '/' and above it.
func TestCompareExamples(t *testing.T) {
	rising := []string{"", "/", "//", "/a", "\x00", "$a", "+", "a", "a/", "a//", "a//b", "a/b", "a/b/c", "a/b\x00", "a/b.c", "a\x00", "a\x00/b", "a!", "a.b", "a0", "aa", "b", "é", "\xFF"}
	for i, a := range rising {
		for k, b := range rising {
			want := 0
			if i != k {
				want = 1
				if i < k {
					want = -1
				}
			}
			if got := topic.Compare(a, b); got != want {
				t.Errorf("P5.5: Compare(%q, %q): %d, want %d", a, b, got, want)
			}
			holdOrder(t, a, b)
		}
	}
}

// P5.5, P5.8: all pairs of short texts.
func TestCompareShortTexts(t *testing.T) {
	all := texts(4, "/", "a", ".", "0", "\x00", "\xFF")
	for _, a := range all[:len(all)/2] {
		for _, b := range all {
			if got, want := topic.Compare(a, b), wantPlain(a, b); got != want {
				t.Fatalf("P5.5: Compare(%q, %q): %d, want %d", a, b, got, want)
			}
		}
	}
	few := texts(3, "/", "a", ".", "0", "\x00", "\xFF", "+")
	for _, a := range few {
		for _, b := range few {
			holdOrder(t, a, b)
		}
	}
}

// wantPlain: P5.5 again, by the library's pieces.
func wantPlain(a, b string) int {
	return slices.Compare(strings.Split(a, "/"), strings.Split(b, "/"))
}

// P5.5, P5.8: some greater texts, half of them with a common beginning.
func TestCompareSome(t *testing.T) {
	r := rand.New(rand.NewSource(52))
	for range 20000 {
		a, b := someText(r), someText(r)
		if r.Intn(2) == 0 {
			head := someText(r)
			a, b = head+a, head+b
		}
		holdOrder(t, a, b)
	}
}

// P5.8: all triples of short texts.
func TestCompareTriples(t *testing.T) {
	all := texts(3, "/", "a", ".", "\x00", "b")
	ahead := make([][]bool, len(all))
	for i, a := range all {
		ahead[i] = make([]bool, len(all))
		for k, b := range all {
			ahead[i][k] = topic.Compare(a, b) <= 0
		}
	}
	for i := range all {
		for k := range all {
			for l := range all {
				if ahead[i][k] && ahead[k][l] && !ahead[i][l] {
					t.Fatalf("P5.8: %q, %q, %q", all[i], all[k], all[l])
				}
			}
		}
	}
}

// P5.8: what goes on from a text stands together, right behind it.
func TestCompareTogether(t *testing.T) {
	all := texts(4, "/", "a", ".", "\x00", "0")
	rand.New(rand.NewSource(53)).Shuffle(len(all), func(i, k int) { all[i], all[k] = all[k], all[i] })
	all = topic.Sorted(all)
	for i, s := range all {
		goesOn := func(o string) bool { return strings.HasPrefix(o, s+"/") }
		n := len(only(all, goesOn))
		if got := len(only(all[i+1:min(i+1+n, len(all))], goesOn)); got != n {
			t.Errorf("P5.8: behind %q stand %d of %d", s, got, n)
		}
	}
}

// P5.5: greatest texts that differ at their last byte, or in their length alone.
func TestCompareLong(t *testing.T) {
	for _, unit := range []string{"a", "/", "a/", "/."} {
		s := strings.Repeat(unit, 1<<17)[:maxText-1]
		ends := []string{"", "/", "a", ".", "\x00", "aa", "/a", "//"}
		for _, a := range ends {
			for _, b := range ends {
				if got, want := topic.Compare(s+a, s+b), wantPlain(s+a, s+b); got != want {
					t.Errorf("P5.5: Compare of %q.. and %q, %q: %d, want %d", unit, a, b, got, want)
				}
			}
		}
	}
}

// wantSorted: what P5.5 asks of Sorted, each text laid at its place.
func wantSorted(l []string) []string {
	var sorted []string
	for _, s := range l {
		i := 0
		for i < len(sorted) && wantOrder(sorted[i], s) <= 0 {
			i++
		}
		sorted = slices.Insert(sorted, i, s)
	}
	return sorted
}

// P5.5: lists of all kinds, with texts that stand in them several times.
func TestSorted(t *testing.T) {
	for _, l := range [][]string{
		nil, {}, {""}, {"a"}, {"", ""}, {"b", "a"}, {"b", "a.b", "a/b", "b", "a"}, {"a", "a", "a"},
		{"b", "a.b", "a/b/c", "a/b", "a/", "a", "$a", "/a"}, {"\xFF", "\x00", "/", "", "+", "#"},
	} {
		if got, want := topic.Sorted(l), wantSorted(l); !slices.Equal(got, want) {
			t.Errorf("P5.5: Sorted(%q): %q, want %q", l, got, want)
		}
	}
	r := rand.New(rand.NewSource(54))
	for range 1000 {
		l := someTexts(r)
		if got, want := topic.Sorted(l), wantSorted(l); !slices.Equal(got, want) {
			t.Fatalf("P5.5: Sorted(%q): %q, want %q", l, got, want)
		}
	}
}

// P5.5: many texts, many of them the same.
func TestSortedMany(t *testing.T) {
	r := rand.New(rand.NewSource(55))
	l := make([]string, 100000)
	count := map[string]int{}
	for i := range l {
		l[i] = someText(r)
		count[l[i]]++
	}
	start := time.Now()
	got := topic.Sorted(l)
	if d := time.Since(start); d > 20*time.Second {
		t.Errorf("Sorted took %v", d)
	}
	if !slices.IsSortedFunc(got, wantPlain) {
		t.Error("P5.5: Sorted isn't in order")
	}
	for _, s := range got {
		count[s]--
	}
	for s, n := range count {
		if n != 0 {
			t.Errorf("P5.5: %q stands %d times too few", s, n)
		}
	}
}

// Rule 3: the list that was handed in, and the room behind it, stay as they were; an answer is memory of its own.
func TestSortedMemory(t *testing.T) {
	r := rand.New(rand.NewSource(56))
	for range 500 {
		l := append(someTexts(r), "z", "y", "x")
		room := l[:r.Intn(len(l))]
		before := slices.Clone(l)
		got := topic.Sorted(room)
		want := slices.Clone(got)
		if !slices.Equal(l, before) {
			t.Fatalf("rule 3: Sorted changed %q to %q", before, l)
		}
		other := topic.Sorted(room)
		spoil(other)
		spoil(l)
		if !slices.Equal(got, want) {
			t.Fatalf("rule 3: Sorted's answer %q became %q", want, got)
		}
		copy(l, before)
		spoil(got)
		if !slices.Equal(l, before) || !slices.Equal(topic.Sorted(room), want) {
			t.Fatalf("rule 3: Sorted's answer is the list itself: %q, %q", before, l)
		}
	}
}

// spoil overwrites a list and the room behind it.
func spoil(l []string) {
	l = l[:cap(l)]
	for i := range l {
		l[i] = "spoiled"
	}
}
