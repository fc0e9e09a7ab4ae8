package cover_test

import (
	"math/rand"
	"strings"
	"testing"

	"crier/api"
	"crier/cover"
	"crier/topic"
)

// P6.1: the chapter's examples, of which all but one leave no choice.
func TestMeetExamples(t *testing.T) {
	a, b := strings.Repeat("a", 40000), strings.Repeat("b", 40000)
	for _, c := range []struct{ f, g, want string }{
		{"a/+", "+/b", "a/b"}, {"a/#", "a", "a"}, {"+", "$a", ""}, {"#", "/", "/"}, {"+/#", "$a/#", ""},
		{a + "/+", "+/" + b, ""}, {a[:30000] + "/+", "+/" + b[:30000], a[:30000] + "/" + b[:30000]},
	} {
		if s, ok := cover.Meet(c.f, c.g); s != c.want || ok != (c.want != "") {
			t.Errorf("P6.1: Meet(%.9q, %.9q): %.9q, %t, want %.9q", c.f, c.g, s, ok, c.want)
		}
	}
	holdMeet(t, "/#", "#", true)
}

// P6.1: an empty text is no topic; a '$' ahead; '#' behind the last level; '+' and an empty level.
func TestMeetEdges(t *testing.T) {
	for _, c := range []struct {
		f, g string
		want bool
	}{
		{"#", "#", true}, {"+", "+", true}, {"+", "#", true}, {"+/#", "#", true}, {"+/#", "+", true}, {"+/#", "+/#", true},
		{"/#", "/#", true}, {"/#", "#", true}, {"/#", "+/#", true}, {"/#", "+", false}, {"/#", "/", true}, {"/#", "/+", true},
		{"/#", "+/", true}, {"/#", "+/+", true}, {"/#", "/a", true}, {"/#", "a", false}, {"/#", "a/#", false}, {"/#", "+/+/#", true},
		{"#", "$", false}, {"+", "$", false}, {"+/#", "$", false}, {"+/a", "$/a", false}, {"#", "$/#", false}, {"+/+", "$a/b", false},
		{"$", "$", true}, {"$/#", "$", true}, {"$", "$a", false}, {"$a/#", "$a/+", true}, {"$a", "a", false}, {"a/+", "a/$b", true}, {"/#", "/$", true}, {"#", "a$", true},
		{"a/#", "a", true}, {"a/#", "a/", true}, {"a/b/#", "a", false}, {"a/b/#", "a/b", true}, {"a/+/#", "a", false}, {"a/+/#", "a/", true}, {"a/#", "a/#", true}, {"a/#", "+/b/#", true},
		{"a/+", "a/", true}, {"+", "a", true}, {"+/a", "/a", true}, {"+/+", "/", true}, {"a//b", "a/+/b", true}, {"a/b", "a//b", false}, {"a", "a", true}, {"a", "b", false}, {"a", "a/", false}, {"a/+", "a", false},
	} {
		holdMeet(t, c.f, c.g, c.want)
	}
}

// P6.1: what is no filter meets nothing, not even itself.
func TestMeetWrong(t *testing.T) {
	for _, w := range wrong() {
		holdMeet(t, w, w, false)
		for _, f := range append(wrong(), "a", "+", "#", "/#", "+/#", "$", "a/#") {
			holdMeet(t, w, f, false)
		}
	}
}

// P6.1: all pairs of filters of few levels, held against their topics.
func TestMeetFew(t *testing.T) {
	filters := fewFilters()
	of := sets(filters, fewTopics())
	for i, f := range filters {
		for j, g := range filters[:i+1] {
			holdMeet(t, f, g, meets(of[i], of[j]))
		}
	}
}

// shortest tells how many bytes the shortest levels have that both filters match, or -1.
func shortest(f, g string) int {
	a, b := strings.Split(f, "/"), strings.Split(g, "/")
	wide := max(len(widened(a, 0)), len(widened(b, 0)))
	a, b = widened(a, wide), widened(b, wide)
	if len(a) != len(b) || a[0] == "+" && strings.HasPrefix(g, "$") || b[0] == "+" && strings.HasPrefix(f, "$") {
		return -1
	}
	n := len(a) - 1
	for i := range a {
		switch {
		case a[i] == "+" && b[i] == "+":
		case a[i] == "+":
			n += len(b[i])
		case b[i] == "+" || a[i] == b[i]:
			n += len(a[i])
		default:
			return -1
		}
	}
	return n
}

// widened tells levels with '#' written out as '+', so often that they are as many as that, if they aren't more.
func widened(l []string, wide int) []string {
	last := len(l) - 1
	if l[last] != "#" {
		return l
	}
	l = l[:last:last]
	for len(l) < wide {
		l = append(l, "+")
	}
	return l
}

// someFilters tells two texts, filters if they aren't too long, that have topics of n bytes and none shorter in common: one has '+' where the other one has much.
func someFilters(r *rand.Rand, n int) (string, string) {
	var f, g []string
	n++
	for n > 0 {
		k := min(n-1, []int{0, 1, 20000, 30000, r.Intn(40000)}[r.Intn(5)])
		level := strings.Repeat(string(rune('a'+len(f)%26)), k)
		n -= k + 1
		switch {
		case k > 1 && len(f)%2 == 0:
			f, g = append(f, level), append(g, "+")
		case k > 1:
			f, g = append(f, "+"), append(g, level)
		case k == 1:
			f, g = append(f, level), append(g, level)
		default:
			f, g = append(f, []string{"", "+"}[r.Intn(2)]), append(g, []string{"", "+"}[r.Intn(2)])
		}
	}
	return strings.Join(f, "/"), strings.Join(g, "/")
}

// P6.1: topics of just as many bytes as may be, of one less and of more.
func TestMeetRoom(t *testing.T) {
	r := rand.New(rand.NewSource(61))
	held := map[bool]int{}
	for range 500 {
		n := maxText + r.Intn(5) - 2
		f, g := someFilters(r, n)
		if topic.CheckFilter(f) != api.OK || topic.CheckFilter(g) != api.OK {
			continue
		}
		if k := shortest(f, g); k != n {
			t.Fatalf("some filters have %d bytes, want %d", k, n)
		}
		holdMeet(t, f, g, n <= maxText)
		if s, ok := cover.Meet(f, g); ok && len(s) < n {
			t.Fatalf("P6.1: Meet(%.9q, %.9q): %d bytes of %d", f, g, len(s), n)
		}
		held[n <= maxText]++
	}
	if held[true] < 80 || held[false] < 80 {
		t.Errorf("only %v held", held)
	}
}

// P6.1: where room is short, signs take no byte that they needn't: each of these has room with one byte less and with just enough, and none with one more.
func TestMeetRoomEdges(t *testing.T) {
	for _, c := range []struct {
		f, g    string
		between int // how many bytes the shortest topic has beside what stands for X
	}{
		{"X/+", "+/X", 1}, {"+/X/+", "+/+/X", 2}, {"+/X/+/+", "+/+/X/+", 3}, {"/X/+", "/+/X", 2}, {"/X/+", "+/+/X", 2}, {"X/+/b", "+/X/+", 3},
		{"X/#", "+/X", 1}, {"X/#", "+/X/#", 1}, {"X/+/#", "+/X", 1}, {"X/+/#", "+/X/#", 1}, {"X/#", "+/+/X/+", 3}, {"X/#", "+/X/+/+/#", 3},
		{"+/X/#", "/+/X", 2}, {"+/+/X/#", "+/X/+", 2}, {"X/+/#", "+/X/b/#", 3}, {"X/#", "+/X//b", 4},
		{"aX/+", "+/bX", 3}, {"éX/+", "+/éX", 5},
	} {
		for more := -1; more <= 1; more++ {
			n := maxText - c.between + more
			f := strings.Replace(c.f, "X", strings.Repeat("x", n/2), 1)
			g := strings.Replace(c.g, "X", strings.Repeat("x", n-n/2), 1)
			if k := shortest(f, g); k != maxText+more {
				t.Fatalf("%q and %q have %d bytes, want %d", c.f, c.g, k, maxText+more)
			}
			holdMeet(t, f, g, more <= 0)
		}
	}
}

// P6.1: filters of MaxText bytes and of as many levels as can be.
func TestMeetLong(t *testing.T) {
	a, slashes := strings.Repeat("a", maxText), strings.Repeat("/", maxText)
	ones := strings.Repeat("+/", maxText/2) + "+"
	for _, c := range []struct {
		f, g string
		want bool
	}{
		{a, a, true}, {a, "+", true}, {a, "#", true}, {a, "+/#", true}, {a, a[1:] + "b", false}, {a, a[1:], false}, {a[2:] + "/#", a[2:], true}, {a[2:] + "/#", "+/+/+", true},
		{a[2:] + "/+", a[2:] + "/#", true}, {a[2:] + "/+", "+/a", true}, {a[2:] + "/+", "+/aa", false}, {a[2:] + "/#", "+//", true}, {a[2:] + "/#", "+///", false}, {a[2:] + "/#", "+/+/+/+", false},
		{slashes, slashes, true}, {slashes, "#", true}, {slashes, "/#", true}, {slashes, slashes[1:] + "#", true}, {slashes, slashes[1:] + "+", false}, {slashes[1:] + "#", slashes[1:] + "#", true},
		{ones, ones, true}, {ones, "#", true}, {ones, slashes[:maxText/2], true}, {ones, slashes[:maxText/2+1], false}, {ones, slashes[1:] + "#", false}, {ones[:maxText-1] + "#", slashes, true},
		{ones, a[:maxText/2+1] + "/#", true}, {ones, a[:maxText/2+2] + "/#", false}, {ones, "$/#", false}, {"$" + ones[1:], "$/#", true},
	} {
		holdMeet(t, c.f, c.g, c.want)
	}
}
