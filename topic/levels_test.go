package topic_test

import (
	"math/rand"
	"slices"
	"strings"
	"testing"

	"crier/api"
	"crier/topic"
)

func holdLevels(t *testing.T, s string) {
	t.Helper()
	got := topic.Levels(s)
	if want := cut(s); !slices.Equal(got, want) {
		t.Errorf("P5.1: Levels(%.30q): %.30q, want %.30q", s, got, want)
	}
	if back := topic.Join(got); back != s {
		t.Errorf("P5.7: Join of Levels(%.30q): %.30q", s, back)
	}
}

// P5.1: the chapter's examples, and texts of '/' alone.
func TestLevelsExamples(t *testing.T) {
	for s, want := range map[string][]string{
		"a//b": {"a", "", "b"},
		"/":    {"", ""},
		"":     {""},
		"a":    {"a"},
		"//":   {"", "", ""},
		"/a":   {"", "a"},
		"a/":   {"a", ""},
		"a/b":  {"a", "b"},
		"//a/": {"", "", "a", ""},
		"+/#":  {"+", "#"},
		"$/$a": {"$", "$a"},
	} {
		if got := topic.Levels(s); !slices.Equal(got, want) {
			t.Errorf("P5.1: Levels(%q): %q, want %q", s, got, want)
		}
	}
}

// P5.1, P5.7: all short texts, also such that are none: a level is made of bytes, whatever they are.
func TestLevelsShortTexts(t *testing.T) {
	for _, s := range texts(6, "/", "a", "é", "+", "\x00", "\xE2") {
		holdLevels(t, s)
	}
}

// P5.1: only the byte '/' stands between levels, not a code point that looks or ends like it.
func TestLevelsOtherBytes(t *testing.T) {
	for c := range 256 {
		s := "a" + string([]byte{byte(c)}) + "b"
		if n := len(topic.Levels(s)); (n == 2) != (c == '/') || n > 2 {
			t.Errorf("P5.1: Levels(%q): %d", s, n)
		}
		holdLevels(t, s)
	}
	for _, s := range []string{"į", "\u2215", "\u2044", "\uFF0F", "\U0001002F", "\uFFFD", "\xE2/\x82/\xAC", "\xC0\xAF", "\xF0\x9F/\x98\x80"} {
		holdLevels(t, s)
	}
}

// P5.1, P5.7: texts of MaxText bytes and more, each of '/' alone too.
func TestLevelsLong(t *testing.T) {
	for _, n := range []int{maxText - 1, maxText, maxText + 1, 1 << 20} {
		l := topic.Levels(strings.Repeat("/", n))
		if len(l) != n+1 || slices.ContainsFunc(l, func(s string) bool { return s != "" }) {
			t.Errorf("P5.1: Levels of %d '/': %d", n, len(l))
		}
		if topic.Join(l) != strings.Repeat("/", n) {
			t.Errorf("P5.7: Join of Levels of %d '/'", n)
		}
		s := strings.Repeat("a", n)
		if l := topic.Levels(s); len(l) != 1 || l[0] != s || topic.Join(l) != s {
			t.Errorf("P5.1: Levels of %d 'a': %d", n, len(l))
		}
	}
}

// P5.1: Join takes all levels, with '/' in them too, and those that are no text.
func TestJoin(t *testing.T) {
	for _, c := range []struct {
		levels []string
		want   string
	}{
		{nil, ""},
		{[]string{}, ""},
		{[]string{""}, ""},
		{[]string{"", ""}, "/"},
		{[]string{"a"}, "a"},
		{[]string{"a", "b"}, "a/b"},
		{[]string{"a", "", "b"}, "a//b"},
		{[]string{"a/b"}, "a/b"},
		{[]string{"/"}, "/"},
		{[]string{"/", "/"}, "///"},
		{[]string{"a/", ""}, "a//"},
		{[]string{"", "/a"}, "//a"},
		{[]string{"+", "#", "+"}, "+/#/+"},
		{[]string{"\x00", "\xFF\xC0"}, "\x00/\xFF\xC0"},
	} {
		if got := topic.Join(c.levels); got != c.want {
			t.Errorf("P5.1: Join(%q): %q, want %q", c.levels, got, c.want)
		}
	}
}

// P5.7: of all rows of levels without '/', and of some greater ones.
func TestLevelsOfJoin(t *testing.T) {
	hold := func(l []string) {
		t.Helper()
		if got := topic.Levels(topic.Join(l)); !slices.Equal(got, l) {
			t.Errorf("P5.7: Levels of Join(%q): %q", l, got)
		}
	}
	few := []string{"", "a", "$", "+", "#", "ab", "é", "\xC0", "\x00"}
	for _, a := range few {
		hold([]string{a})
		for _, b := range few {
			hold([]string{a, b})
			for _, c := range few {
				hold([]string{a, b, c})
			}
		}
	}
	r := rand.New(rand.NewSource(51))
	for range 500 {
		l := []string{strings.ReplaceAll(someText(r), "/", "")}
		for range r.Intn(8) {
			l = append(l, strings.ReplaceAll(someText(r), "/", ""))
		}
		hold(l)
	}
}

// Rules 2 and 3: an answer is memory of its own, with its spare room, and what is handed to Join stays.
func TestLevelsMemory(t *testing.T) {
	first, second := topic.Levels("a/b/c"), topic.Levels("a/b/c")
	for i := range first {
		first[i] = "x"
	}
	_ = append(first, "y", "z")
	if want := []string{"a", "b", "c"}; !slices.Equal(second, want) || !slices.Equal(topic.Levels("a/b/c"), want) {
		t.Errorf("rule 3: Levels' answers share memory: %q", second)
	}

	room := []string{"a", "b", "c", "d"}
	if got := topic.Join(room[:2]); got != "a/b" || !slices.Equal(room, []string{"a", "b", "c", "d"}) {
		t.Errorf("rule 3: Join of a piece: %q, %q", got, room)
	}
}

// P5.2: just these two bytes are signs: nothing else is refused as one, or matches what it isn't.
func TestSigns(t *testing.T) {
	hold := func(s string) {
		t.Helper()
		sign := s == "+" || s == "#"
		for _, around := range [][2]string{{"", ""}, {"a", ""}, {"", "a"}, {"a/", ""}, {"", "/a"}} {
			whole := around[0] + s + around[1]
			if wild := topic.Check(whole) == api.ErrTopicWild; wild != sign {
				t.Errorf("P5.2: Check(%q): a sign is %t", whole, wild)
			}
			if !sign && topic.CheckFilter(whole) == api.ErrTopicWild {
				t.Errorf("P5.2: CheckFilter(%q): ErrTopicWild", whole)
			}
		}
		if got := topic.Match(s, "qq") || topic.Match("a/"+s, "a/qq"); got != sign {
			t.Errorf("P5.2: %q matches another level: %t", s, got)
		}
	}
	for c := range 256 {
		hold(string([]byte{byte(c)}))
	}
	for c := rune(0x80); c < 0x20000; c++ {
		if c&0xFF == '+' || c&0xFF == '#' || c&0xFFF == '*' {
			hold(string(c))
		}
	}
	for _, s := range []string{"\uFF0B", "\uFF03", "\u207A", "\uFE62", "*", "**", "?", "%23", "%2B", "."} {
		hold(s)
	}
}
