package cover_test

import (
	"math/rand"
	"slices"
	"strings"
	"testing"

	"crier/cover"
)

// P6.2, P6.3: the chapter's examples, and the only topic where there is just one.
func TestOutsideExamples(t *testing.T) {
	for _, c := range []struct {
		f, g string
		want bool
	}{
		{"a/#", "a/+", true}, {"#", "+/#", false}, {"+", "a", true}, {"+/+", "+/#", false}, {"a/#", "a/+/#", true},
	} {
		holdOutside(t, c.f, c.g, c.want)
	}
	if s, _ := cover.Outside("a/#", "a/+/#"); s != "a" {
		t.Errorf("P6.2: Outside of `a/#`, `a/+/#`: %q", s)
	}
}

// P6.2, P6.3: an empty text is no topic; a '$' ahead; '#' behind the last level; '+' and an empty level; levels that a filler is like.
func TestOutsideEdges(t *testing.T) {
	for _, c := range []struct {
		f, g string
		want bool
	}{
		{"#", "#", false}, {"+/#", "#", false}, {"+", "#", false}, {"+", "+/#", false}, {"#", "+", true}, {"+/#", "+", true}, {"#", "/#", true}, {"#", "+/+", true}, {"#", "+/+/#", true},
		{"/#", "#", false}, {"/#", "+/#", false}, {"/#", "/+/#", false}, {"/#", "+/+/#", false}, {"/+/#", "/#", false}, {"/#", "/+", true}, {"/#", "/", true}, {"/#", "/a", true}, {"/#", "//#", true}, {"/#", "/a/#", true}, {"/#", "+", true}, {"/#", "/+/+/#", true}, {"/", "/#", false}, {"/", "+/+", false},
		{"+", "/#", true}, {"+", "+", false}, {"+", "b", true}, {"+", "c", true}, {"+", "$", true}, {"+", "$a", true}, {"#", "a", true}, {"#", "a/#", true}, {"#", "b/#", true}, {"#", "$/#", true},
		{"$", "#", true}, {"$", "+", true}, {"$", "+/#", true}, {"$a", "#", true}, {"$a/b", "+/b", true}, {"$/#", "#", true}, {"$/#", "+/#", true}, {"$a/+", "$a/#", false}, {"$", "$/#", false}, {"$", "$", false}, {"$/#", "$", true}, {"a/$", "a/+", false}, {"/$", "#", false}, {"a$", "+", false},
		{"a", "a/#", false}, {"a/", "a/#", false}, {"a/#", "a", true}, {"a/#", "a/#", false}, {"a/#", "a/b/#", true}, {"a/b/#", "a/#", false}, {"a/b/#", "a", true}, {"a", "a/b/#", true}, {"a", "a/+/#", true}, {"a/", "a/+/#", false}, {"a/+", "a/+/#", false},
		{"a/+", "a/", true}, {"a/", "a/+", false}, {"a/+", "a/a", true}, {"a/+", "a/b", true}, {"a/+", "a/ab", true}, {"a/+/b", "a//b", true}, {"a//b", "a/+/b", false}, {"+/+", "+/", true}, {"+/+", "/+", true}, {"+/+", "a/+", true}, {"+/a", "a/a", true},
		{"a", "b", true}, {"a", "A", true}, {"a", "aa", true}, {"a", "a/", true}, {"a/b/c", "a/b", true}, {"a/b", "a/b/c", true}, {"+/+", "+", true}, {"+", "+/+", true}, {"a/+/+", "a/a/a", true}, {"+/+/#", "+/#", false}, {"+/#", "+/+/#", true},
	} {
		holdOutside(t, c.f, c.g, c.want)
	}
}

// P6.2, P6.3: what is no filter has the empty set: it lies within all, and no filter lies within it.
func TestOutsideWrong(t *testing.T) {
	for _, w := range wrong() {
		for _, v := range wrong() {
			holdOutside(t, w, v, false)
		}
		for _, f := range []string{"a", "b", "+", "#", "+/#", "/#", "/", "/+", "$", "$/#", "a/#", "+/+/+", strings.Repeat("a", maxText), strings.Repeat("/", maxText)} {
			holdOutside(t, w, f, false)
			holdOutside(t, f, w, true)
		}
	}
}

// P6.2, P6.3: all pairs of filters of few levels, held against their topics.
func TestOutsideFew(t *testing.T) {
	filters := fewFilters()
	of := sets(filters, fewTopics())
	for i, f := range filters {
		for j, g := range filters {
			holdOutside(t, f, g, !inside(of[i], of[j]))
		}
	}
}

// P6.2, P6.3: filters of more levels: what is made wider, level by level, holds what it was made of, and that holds it just where nothing was made wider.
func TestOutsideWider(t *testing.T) {
	r := rand.New(rand.NewSource(62))
	some := []string{"", "a", "b", "ab", "$", "é", "+"}
	for range 5000 {
		f := make([]string, 2+r.Intn(9))
		for i := range f {
			f[i] = some[r.Intn(len(some))]
		}
		f[0] = "a"
		g := slices.Clone(f)
		for range r.Intn(3) {
			g[r.Intn(len(g))] = "+"
		}
		if r.Intn(3) == 0 {
			g = append(g[:1+r.Intn(len(g))], "#")
		}
		narrow, wide := strings.Join(f, "/"), strings.Join(g, "/")
		holdOutside(t, narrow, wide, false)
		holdOutside(t, wide, narrow, wide != narrow)
		holdMeet(t, narrow, wide, true)
		holdOutside(t, "$"+narrow, wide, true)
		holdOutside(t, narrow+"/c", narrow+"/b", true)
	}
}

// P6.2, P6.3: filters of MaxText bytes, whose topics have just room for what keeps them outside, and of as many levels as can be.
func TestOutsideLong(t *testing.T) {
	a, slashes := strings.Repeat("a", maxText), strings.Repeat("/", maxText)
	ones := strings.Repeat("+/", maxText/2) + "+"
	half := slashes[:maxText/2]
	x := a[:maxText-2]
	for _, c := range []struct {
		f, g string
		want bool
	}{
		{a, a, false}, {a, "+", false}, {a, "#", false}, {a, a[1:], true}, {a[1:], a, true}, {"+", a, true}, {"#", a, true}, {a, "$" + a[1:], true}, {"$" + a[1:], "#", true},
		{x + "/+", x + "/", true}, {x + "/+", x + "/a", true}, {x + "/+", x + "/#", false}, {x + "/#", x + "/+", true}, {x + "/#", x, true}, {x + "/#", x + "/", true}, {x + "/#", "+/+", true}, {x + "/#", "+/#", false}, {x + "/#", "+/+/#", true}, {x + "/#", x + "/#", false},
		{"+/" + x, "/" + x, true}, {"+/" + x, "a/" + x, true}, {"+/" + x, "+/#", false}, {"/" + x + "a", "+/" + x, true}, {"/" + x, "+/" + x, false},
		{slashes, slashes, false}, {slashes, "#", false}, {slashes, slashes[1:] + "#", false}, {slashes[1:] + "#", slashes, true}, {slashes[1:] + "#", slashes[1:] + "+", true}, {slashes[1:] + "+", slashes[1:] + "#", false}, {slashes[1:] + "+", slashes[1:], true}, {slashes[1:], slashes[1:] + "+", false}, {slashes[1:], slashes[2:] + "+", true},
		{ones, ones, false}, {ones, half, true}, {half, ones, false}, {half + "/", ones, true}, {ones, ones[:maxText-1] + "#", false}, {ones[:maxText-1] + "#", ones, true}, {ones, "#", false}, {ones, "/#", true}, {ones[:maxText-1] + "a", ones, false}, {ones, ones[:maxText-1] + "a", true}, {ones, ones[:maxText-1], true}, {"$" + ones[1:], ones, true}, {ones, "$" + ones[1:], true},
	} {
		holdOutside(t, c.f, c.g, c.want)
	}
}

// P6.5: the sets of two filters are equal just where each lies within the other; but for two pairs only one text has it.
func TestEqual(t *testing.T) {
	filters := fewFilters()
	of := sets(filters, fewTopics())
	unlike := map[string]bool{}
	for i, f := range filters {
		for j, g := range filters {
			both := cover.Within(f, g) && cover.Within(g, f)
			if equal := of[i].Cmp(of[j]) == 0; both != equal {
				t.Fatalf("P6.5: %q and %q, each within the other: %t, equal: %t", f, g, both, equal)
			}
			if both && i < j {
				unlike[f+" "+g] = true
			}
		}
	}
	if len(unlike) != 2 || !unlike["# +/#"] || !unlike["/# /+/#"] {
		t.Errorf("P6.5: unlike filters of one set: %v", unlike)
	}
	if cover.Within("+", "+/+") || cover.Within("+/+", "+") {
		t.Error("P6.5: `+` and `+/+`")
	}
	for _, w := range wrong() {
		if !cover.Within(w, "a+") || !cover.Within("a+", w) {
			t.Errorf("P6.5: the empty sets of %.20q and `a+`", w)
		}
	}
}

// P6.6: within goes on, and whatever meets the lesser one meets the greater one.
func TestGoesOn(t *testing.T) {
	filters := append(fewFilters(), "", "a+", "#/a", "\xFF", "a/b/c", "a/b/+/#")
	in, meet := make([][]bool, len(filters)), make([][]bool, len(filters))
	for i, f := range filters {
		in[i], meet[i] = make([]bool, len(filters)), make([]bool, len(filters))
		for j, g := range filters {
			in[i][j] = cover.Within(f, g)
			_, meet[i][j] = cover.Meet(f, g)
		}
	}
	held := 0
	for i, f := range filters {
		for j, g := range filters {
			if !in[i][j] {
				continue
			}
			for k, h := range filters {
				if in[j][k] && !in[i][k] {
					t.Fatalf("P6.6: %q within %q within %q, but not the first within the last", f, g, h)
				}
				if meet[k][i] && !meet[k][j] || meet[i][k] && !meet[j][k] {
					t.Fatalf("P6.6: %q meets %q, but not %q, which that is within", h, f, g)
				}
				held++
			}
		}
	}
	if held < 100000 {
		t.Errorf("only %d held", held)
	}
}
