package topic_test

import (
	"strings"
	"testing"
	"unicode/utf8"

	"crier/api"
	"crier/topic"
)

func text(s string) bool {
	return len(s) <= 65535 && utf8.ValidString(s) && !strings.Contains(s, "\x00")
}

// wantTopic: what P5.3 asks of Check.
func wantTopic(s string) api.Errno {
	switch {
	case len(s) == 0:
		return api.ErrTopicEmpty
	case !text(s):
		return api.ErrTopicText
	case strings.Contains(s, "+") || strings.Contains(s, "#"):
		return api.ErrTopicWild
	}
	return api.OK
}

// wantFilter: what P5.4 asks of CheckFilter.
func wantFilter(s string) api.Errno {
	if len(s) == 0 {
		return api.ErrTopicEmpty
	}
	if !text(s) {
		return api.ErrTopicText
	}
	levels := strings.Split(s, "/")
	for i, l := range levels {
		if len(l) > 1 && strings.ContainsAny(l, "+#") {
			return api.ErrTopicWild
		}
		if l == "#" && i != len(levels)-1 {
			return api.ErrTopicWild
		}
	}
	return api.OK
}

func holdChecks(t *testing.T, s string) {
	t.Helper()
	if e, want := topic.Check(s), wantTopic(s); e != want {
		t.Errorf("P5.3: Check(%.20q), %d bytes: %d, want %d", s, len(s), e, want)
	}
	if e, want := topic.CheckFilter(s), wantFilter(s); e != want {
		t.Errorf("P5.4: CheckFilter(%.20q), %d bytes: %d, want %d", s, len(s), e, want)
	}
	if topic.Check(s) == api.OK && topic.CheckFilter(s) != api.OK {
		t.Errorf("P5.4: %.20q is a topic and no filter", s)
	}
}

// P5.3, P5.4: the chapter's examples.
func TestCheckExamples(t *testing.T) {
	for s, want := range map[string]api.Errno{
		"/": api.OK, "a/+": api.ErrTopicWild, "#": api.ErrTopicWild, "": api.ErrTopicEmpty, "\xC0\x80": api.ErrTopicText,
	} {
		if e := topic.Check(s); e != want {
			t.Errorf("P5.3: Check(%q): %d, want %d", s, e, want)
		}
	}
	for s, want := range map[string]api.Errno{
		"+/a/#": api.OK, "#": api.OK, "+": api.OK, "/+": api.OK,
		"a+": api.ErrTopicWild, "#/a": api.ErrTopicWild, "a/#/": api.ErrTopicWild, "++": api.ErrTopicWild,
	} {
		if e := topic.CheckFilter(s); e != want {
			t.Errorf("P5.4: CheckFilter(%q): %d, want %d", s, e, want)
		}
	}
}

// P5.3, P5.4: all short texts over pieces of which each decides something.
func TestCheckShortTexts(t *testing.T) {
	pieces := []string{"a", "$", "é", "/", "+", "#", "\x00", "\xC0"}
	var all func(s string, left int)
	all = func(s string, left int) {
		holdChecks(t, s)
		for _, p := range pieces {
			if left > 0 {
				all(s+p, left-1)
			}
		}
	}
	all("", 5)
}

// P5.3, P5.4: the greatest length and one more; that a text is none is told ahead of a sign.
func TestCheckLength(t *testing.T) {
	for _, n := range []int{65534, 65535, 65536} {
		for _, unit := range []string{"a", "/", "+", "#", "+/"} {
			s := strings.Repeat(unit, n/len(unit)+1)[:n]
			for _, tail := range []string{"", "/#", "#/", "\x00", "\xFF"} {
				holdChecks(t, s[:n-len(tail)]+tail)
			}
		}
	}
}
