package cover_test

import (
	"math/big"
	"math/rand"
	"slices"
	"strings"
	"testing"

	"crier/cover"
	"crier/topic"
)

// P6.4: the chapter's examples, and the edges that it names.
func TestLeastExamples(t *testing.T) {
	long := strings.Repeat("/", maxText)
	for _, c := range []struct{ l, want []string }{
		{nil, nil},
		{[]string{}, nil},
		{[]string{"a/b", "a/+", "+/#", "#"}, []string{"+/#"}},
		{[]string{"a", "b"}, []string{"a", "b"}},
		{[]string{"b", "a"}, []string{"b", "a"}},
		{[]string{"a+", "a"}, []string{"a"}},
		{[]string{"a", "a+"}, []string{"a"}},
		{[]string{"a+"}, []string{"a+"}},
		{[]string{""}, []string{""}},
		{[]string{"a+", "b+", ""}, []string{"a+"}},
		{[]string{"", "a+", "b", "\xFF", "c"}, []string{"b", "c"}},
		{[]string{"#", "+/#"}, []string{"#"}},
		{[]string{"+/#", "#"}, []string{"+/#"}},
		{[]string{"/#", "/+/#"}, []string{"/#"}},
		{[]string{"/+/#", "/", "/#"}, []string{"/+/#"}},
		{[]string{"a", "a", "a"}, []string{"a"}},
		{[]string{"a", "b", "a", "b"}, []string{"a", "b"}},
		{[]string{"a/+", "b", "a/#", "a/b", "c"}, []string{"b", "a/#", "c"}},
		{[]string{"$a", "#", "$", "$a/#", "+"}, []string{"#", "$", "$a/#"}},
		// What two others have together, but neither of them alone, stays.
		{[]string{"a/#", "a", "a/+/#"}, []string{"a/#"}},
		{[]string{"a", "a/+/#", "a/#"}, []string{"a/#"}},
		{[]string{"a", "a/+/#"}, []string{"a", "a/+/#"}},
		{[]string{long, "/#", "+/a", "//" + strings.Repeat("a", maxText), long[1:] + "#"}, []string{"/#", "+/a"}},
	} {
		if got := cover.Least(c.l); !slices.Equal(got, c.want) {
			t.Errorf("P6.4: Least(%.20q): %.20q, want %.20q", c.l, got, c.want)
		}
	}
}

// wantLeast: what P6.4 asks for, of texts whose sets are these.
func wantLeast(l []string, of map[string]*big.Int) []string {
	gone := make([]bool, len(l))
	for i := len(l) - 1; i >= 0; i-- {
		for j := range l {
			gone[i] = gone[i] || j != i && !gone[j] && inside(of[l[i]], of[l[j]])
		}
	}
	var left []string
	for i, f := range l {
		if !gone[i] {
			left = append(left, f)
		}
	}
	return left
}

func union(l []string, of map[string]*big.Int) *big.Int {
	all := new(big.Int)
	for _, f := range l {
		all.Or(all, of[f])
	}
	return all
}

// P6.4, P6.7: lists of filters of few levels and of wrong texts, some of them several times.
func TestLeastSome(t *testing.T) {
	r := rand.New(rand.NewSource(64))
	texts := append(fewFilters(), "", "a+", "#/a", "\xFF")
	often := []string{"#", "+/#", "/#", "/+/#", "a/#", "a/+", "a", "", "a+", "$", "+"}
	of := map[string]*big.Int{}
	for i, s := range sets(texts, fewTopics()) {
		of[texts[i]] = s
	}
	lengths := map[int]int{}
	for range 2000 {
		l := make([]string, r.Intn(12))
		for i := range l {
			from := texts
			if r.Intn(8) == 0 {
				from = often
			}
			l[i] = from[r.Intn(len(from))]
			if i > 0 && r.Intn(6) == 0 {
				l[i] = l[r.Intn(i)]
			}
		}
		got, want := cover.Least(l), wantLeast(l, of)
		if !slices.Equal(got, want) {
			t.Fatalf("P6.4: Least(%q): %q, want %q", l, got, want)
		}
		if union(got, of).Cmp(union(l, of)) != 0 {
			t.Fatalf("P6.7: Least(%q): %q, which match less", l, got)
		}
		holdApart(t, got)
		lengths[len(got)]++
	}
	for n := range 6 {
		if lengths[n] < 20 {
			t.Errorf("only %d have %d left", lengths[n], n)
		}
	}
}

// holdApart: of texts that are left none lies within another one.
func holdApart(t *testing.T, l []string) {
	t.Helper()
	for i, f := range l {
		for j, g := range l {
			if i != j && cover.Within(f, g) {
				t.Fatalf("P6.7: %.20q and %.20q are left, the first within the second", f, g)
			}
		}
	}
}

// P6.7: a list of many texts.
func TestLeastMany(t *testing.T) {
	l := fewFilters()
	rand.New(rand.NewSource(67)).Shuffle(len(l), func(i, j int) { l[i], l[j] = l[j], l[i] })
	got := cover.Least(l)
	holdApart(t, got)
	for _, s := range fewTopics() {
		matches := func(f string) bool { return topic.Match(f, s) }
		if slices.ContainsFunc(l, matches) != slices.ContainsFunc(got, matches) {
			t.Errorf("P6.7: %q", s)
		}
	}
	// `#`, and each beginning that a sign doesn't match, with all levels behind it.
	if len(got) != 3 {
		t.Errorf("P6.4: Least of all few filters: %q", got)
	}
}

// Rules 2, 3 and 6: what is handed in stays, its spare room too; an answer is memory of its own.
func TestLeastMemory(t *testing.T) {
	room := []string{"a", "a/b", "b", "a/+", "x", "y"}
	before := slices.Clone(room)
	first, second := cover.Least(room[:4]), cover.Least(room[:4])
	want := []string{"a", "b", "a/+"}
	if !slices.Equal(first, want) || !slices.Equal(room, before) {
		t.Fatalf("rule 3: Least: %q, the list: %q", first, room)
	}
	for i := range first {
		first[i] = "z"
	}
	_ = append(first, "z", "z")
	for i := range room {
		room[i] = "w"
	}
	if !slices.Equal(second, want) {
		t.Errorf("rule 3: Least's answer is touched: %q", second)
	}
	alone := []string{"a", "b"}
	got := cover.Least(alone)
	got[0] = "z"
	if alone[0] != "a" {
		t.Error("rule 3: Least's answer is the list that was handed in")
	}
}
