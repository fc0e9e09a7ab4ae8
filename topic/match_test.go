package topic_test

import (
	"math/rand"
	"regexp"
	"slices"
	"strings"
	"testing"

	"crier/api"
	"crier/topic"
)

// wantMatch: what P5.6 asks of Match with this filter, as a pattern of whole topics.
func wantMatch(filter string) func(topic string) bool {
	if wantFilter(filter) != api.OK {
		return func(string) bool { return false }
	}
	pattern := ""
	for i, l := range strings.Split(filter, "/") {
		switch {
		case l == "#" && i == 0:
			pattern += `.*`
		case l == "#":
			pattern += `(/.*)?`
		case l == "+":
			pattern += between(i) + `[^/]*`
		default:
			pattern += between(i) + regexp.QuoteMeta(l)
		}
	}
	is := regexp.MustCompile(`(?s)\A` + pattern + `\z`)
	return func(s string) bool {
		if wantTopic(s) != api.OK || s[0] == '$' && (filter[0] == '+' || filter[0] == '#') {
			return false
		}
		return is.MatchString(s)
	}
}

func between(i int) string {
	if i == 0 {
		return ""
	}
	return "/"
}

// P5.6: the chapter's examples, and the edges that it names.
func TestMatchExamples(t *testing.T) {
	for _, c := range []struct {
		filter   string
		yes, not []string
	}{
		{"a/#", []string{"a", "a/", "a/b/c", "a//", "a/$b"}, []string{"ab", "b", "", "/a", "a b", "$a", "a#", "a/#"}},
		{"+", []string{"a", "é", "a$"}, []string{"/a", "$a", "$", "a/", "/", "", "+", "#", "a\x00"}},
		{"+/+", []string{"/a", "a/", "/", "a/b", "/$", "a/$b"}, []string{"a", "a/b/c", "$a/b", "$/", "//"}},
		{"/+", []string{"/a", "/", "/$a"}, []string{"a", "//", "/a/", "a/a"}},
		{"#", []string{"a", "/", "a/$b", "/$", "//", "a/b/c/d"}, []string{"$a", "$", "$a/b", "$/", "", "#", "+", "\xFF"}},
		{"/#", []string{"/", "/a", "//", "/$a"}, []string{"a", "a/", "$/"}},
		{"$a/#", []string{"$a/b", "$a", "$a/"}, []string{"a", "$", "$ab", "$b/a"}},
		{"$a/+", []string{"$a/b", "$a/", "$a/$"}, []string{"$a", "$a/b/c", "$b/b"}},
		{"$", []string{"$"}, []string{"$a", "$/"}},
		{"+/b", []string{"a/b", "/b"}, []string{"$a/b", "$/b"}},
		{"+/#", []string{"a", "a/b", "/", "/a", "a/b/c"}, []string{"$a", "$a/b"}},
		{"a/+/#", []string{"a/b", "a/", "a/b/c", "a//"}, []string{"a", "b/b"}},
		{"a/+/c", []string{"a/b/c", "a//c", "a/$/c"}, []string{"a/c", "a/b/c/", "a/b/d", "a/b"}},
		{"a//b", []string{"a//b"}, []string{"a/b", "a/x/b", "a///b"}},
		{"a", []string{"a"}, []string{"a/", "/a", "A", "aa", "", "a/a"}},
		{"a/", []string{"a/"}, []string{"a", "a//", "a/b"}},
	} {
		for _, s := range c.yes {
			if !topic.Match(c.filter, s) {
				t.Errorf("P5.6: %q doesn't match %q", c.filter, s)
			}
		}
		for _, s := range c.not {
			if topic.Match(c.filter, s) {
				t.Errorf("P5.6: %q matches %q", c.filter, s)
			}
		}
	}
}

// P5.6: what is no filter matches nothing, and what is no topic is matched by nothing, not even by the same bytes.
func TestMatchWrong(t *testing.T) {
	wrong := []string{"", "a+", "+a", "++", "#/a", "a/#/", "#/#", "a#", "##", "+#", "\xFF", "a/\xC0\x80", "a\x00", "\xED\xA0\x80", strings.Repeat("a", maxText+1)}
	for _, w := range wrong {
		for _, s := range append([]string{"a", "a/b", "/", "$", w}, wrong...) {
			if topic.Match(w, s) {
				t.Errorf("P5.6: %.20q, no filter, matches %.20q", w, s)
			}
		}
	}
	for _, w := range append([]string{"+", "#", "a/+", "a/#", "+/a"}, wrong...) {
		for _, f := range []string{"#", "+", "a/#", "a/+", "+/+", "+/#", "/#", w} {
			if topic.Match(f, w) {
				t.Errorf("P5.6: %.20q matches %.20q, no topic", f, w)
			}
		}
	}
}

// P5.6: all pairs of short texts, right ones and wrong ones.
func TestMatchShortTexts(t *testing.T) {
	all := append(joined(3, "", "a", "b", "$", "$a", "+", "#", "a+"), texts(2, "/", "\x00", "\xFF", "é")...)
	for _, f := range all {
		want := wantMatch(f)
		for _, s := range all {
			if got := topic.Match(f, s); got != want(s) {
				t.Fatalf("P5.6: Match(%q, %q): %t", f, s, got)
			}
		}
	}
}

// P5.6: longer ones, the filters near to what they might match.
func TestMatchSome(t *testing.T) {
	r := rand.New(rand.NewSource(57))
	matched := 0
	for range 20000 {
		s := someText(r)
		levels := strings.Split(s, "/")
		for i := range levels {
			if r.Intn(3) == 0 {
				levels[i] = []string{"+", "+", "a", "", "$"}[r.Intn(5)]
			}
		}
		switch r.Intn(4) {
		case 0:
			levels = append(levels[:r.Intn(len(levels)+1)], "#")
		case 1:
			levels = levels[:1+r.Intn(len(levels))]
		}
		f := strings.Join(levels, "/")
		got := topic.Match(f, s)
		if got != wantMatch(f)(s) {
			t.Fatalf("P5.6: Match(%q, %q): %t", f, s, got)
		}
		if got {
			matched++
		}
	}
	if matched < 2000 {
		t.Errorf("only %d matched", matched)
	}
}

// P5.6: topics and filters of MaxText bytes, with as many levels as can be, and of one byte more.
func TestMatchLong(t *testing.T) {
	a, slashes := strings.Repeat("a", maxText), strings.Repeat("/", maxText)
	ones := strings.Repeat("+/", maxText/2) + "+"
	half := strings.Repeat("/", maxText/2)
	for _, c := range []struct {
		filter, topic string
		want          bool
	}{
		{a, a, true}, {"#", a, true}, {"+", a, true}, {a, a[1:], false}, {a[1:], a, false},
		{"#", a + "a", false}, {"+", a + "a", false}, {a + "a", a + "a", false}, {a + "a", a, false},
		{slashes, slashes, true}, {"#", slashes, true}, {slashes[1:] + "#", slashes, true}, {slashes[1:] + "#", "a" + slashes[1:], false},
		{slashes[1:] + "#", slashes[1:], true}, {slashes[2:] + "#", slashes, true}, {slashes[1:] + "#", slashes[2:], true},
		{slashes[1:] + "#", slashes[3:], false}, {slashes[1:] + "+", slashes[1:], true}, {slashes[1:] + "+", slashes[2:], false},
		{slashes[1:] + "+", slashes[2:] + "a", false}, {slashes[1:] + "+", slashes[1:] + "a", true}, {slashes[1:] + "a", slashes[1:] + "b", false},
		{ones, half, true}, {ones, half + "a", true}, {ones, "a" + half, true}, {ones, half + "/", false}, {ones, half[1:], false},
		{ones, "$" + half, false}, {ones[:maxText-1] + "#", half[1:], true}, {ones[:maxText-1] + "#", slashes, true}, {ones[:maxText-1] + "#", half[2:], false},
		{slashes + "/", slashes + "/", false}, {"#", slashes + "/", false}, {ones + "/", half + "/", false},
	} {
		// wantMatch has no patterns of that many pieces.
		if got := topic.Match(c.filter, c.topic); got != c.want {
			t.Errorf("P5.6: Match(%.9q, %d bytes; %.9q, %d bytes): %t", c.filter, len(c.filter), c.topic, len(c.topic), got)
		}
	}
}

func isTopic(s string) bool  { return topic.Check(s) == api.OK }
func isFilter(s string) bool { return topic.CheckFilter(s) == api.OK }

// P5.9: a topic matches itself, and no other.
func TestMatchItself(t *testing.T) {
	topics := only(append(texts(4, "/", "a", "$", ".", "é"), texts(3, "/", "A", "a", "\x01")...), isTopic)
	if len(topics) < 500 {
		t.Fatalf("only %d topics", len(topics))
	}
	for _, f := range topics {
		for _, s := range topics {
			if got := topic.Match(f, s); got != (f == s) {
				t.Fatalf("P5.9: Match(%q, %q): %t", f, s, got)
			}
		}
	}
}

// P5.9: a level made '+' takes nothing away, but for a '$' ahead.
func TestMatchMadeWild(t *testing.T) {
	topics, filters := fewTopics(), fewFilters()
	held := 0
	for _, f := range filters {
		for i, l := range strings.Split(f, "/") {
			levels := strings.Split(f, "/")
			levels[i] = "+"
			wild := strings.Join(levels, "/")
			if l == "#" || !isFilter(wild) {
				continue
			}
			for _, s := range topics {
				if i == 0 && s[0] == '$' || !topic.Match(f, s) {
					continue
				}
				held++
				if !topic.Match(wild, s) {
					t.Fatalf("P5.9: %q matches %q, %q doesn't", f, s, wild)
				}
			}
		}
	}
	if held < 1000 {
		t.Errorf("only %d held", held)
	}
}

// P5.9: `a/#` is `a` and `a/+/#`.
func TestMatchAll(t *testing.T) {
	topics := fewTopics()
	for _, f := range fewFilters() {
		if strings.Contains(f, "#") {
			continue
		}
		for _, s := range topics {
			got := topic.Match(f+"/#", s)
			if want := topic.Match(f, s) || topic.Match(f+"/+/#", s); got != want {
				t.Fatalf("P5.9: Match(%q, %q): %t", f+"/#", s, got)
			}
		}
	}
}

// P5.10: of a level that is unlike the filter's nothing else counts.
func TestMatchLevelAlone(t *testing.T) {
	others := []string{"", "a", "b", "aa", "$", "$b", "é", "zz"}
	topics, held := fewTopics(), 0
	for _, f := range fewFilters() {
		of := strings.Split(f, "/")
		for _, s := range topics {
			is := topic.Match(f, s)
			levels := strings.Split(s, "/")
			for i := range min(len(of), len(levels)) {
				if levels[i] == of[i] {
					continue
				}
				for _, o := range others {
					changed := slices.Clone(levels)
					changed[i] = o
					c := strings.Join(changed, "/")
					if o == of[i] || !isTopic(c) || (c[0] == '$') != (s[0] == '$') {
						continue
					}
					held++
					if topic.Match(f, c) != is {
						t.Fatalf("P5.10: Match(%q, %q): %t, of %q not", f, s, is, c)
					}
				}
			}
		}
	}
	if held < 10000 {
		t.Errorf("only %d held", held)
	}
}

// fewTopics, fewFilters: all of few levels.
func fewTopics() []string { return only(joined(3, "", "a", "b", "$", "$a"), isTopic) }

func fewFilters() []string { return only(joined(3, "", "a", "$", "$a", "+", "#"), isFilter) }
