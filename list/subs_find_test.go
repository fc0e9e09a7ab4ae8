package list_test

import (
	"fmt"
	"math/rand"
	"slices"
	"strings"
	"testing"

	"crier/api"
	"crier/list"
	"crier/topic"
)

// TestSubsFindByOneFilter: each filter alone, against each topic.
func TestSubsFindByOneFilter(t *testing.T) {
	topics := append(fewTopics(3), noTopic()[:7]...)
	for _, f := range fewFilters(3) {
		s := list.NewSubs()
		s.Put(f, "x", 1)
		for _, text := range topics {
			if got, want := len(s.Find(text)) == 1, topic.Match(f, text); got != want {
				t.Errorf("P10.2: Find(%q) by %q: %t", text, f, got)
			}
		}
	}
}

// TestSubsFindByAllFilters: all filters at once, each with a key of its own and one that all have.
func TestSubsFindByAllFilters(t *testing.T) {
	o := newTrio()
	filters := fewFilters(3)
	for i, f := range filters {
		o.put(t, f, f, i%3)
		o.put(t, f, "all", i%2)
	}
	o.hold(t, filters, fewTopics(3))
}

// TestSubsFindTellsTheGreatest: whichever of a key's filters it stands at, and whenever that one was laid down.
func TestSubsFindTellsTheGreatest(t *testing.T) {
	r := rand.New(rand.NewSource(107))
	matching := []string{"a/b", "a/+", "a/#", "+/b", "+/+", "#", "+/#", "a/b/#"}
	for range 10 {
		for _, best := range matching {
			o := newTrio()
			o.put(t, "a/b/+", "one", 2)
			for _, f := range shuffled(r, matching) {
				o.put(t, f, "one", map[bool]int{true: 2, false: 1}[f == best])
				o.put(t, f, "none", 0)
				o.put(t, f, "own "+f, r.Intn(3))
			}
			o.put(t, "a", "none", 2)
			o.put(t, "a/b/+", "other", 2)
			got := o.s.Find("a/b")
			if !slices.Contains(got, api.Entry{Key: "one", QoS: 2}) || !slices.Contains(got, api.Entry{Key: "none", QoS: 0}) || len(got) != 2+len(matching) {
				t.Fatalf("P10.2: Find: %s", told(got))
			}
			o.put(t, best, "one", 0)
			if got := o.s.Find("a/b"); !slices.Contains(got, api.Entry{Key: "one", QoS: 1}) {
				t.Fatalf("P10.2: Find, the greatest one being less now: %s", told(got))
			}
			for _, f := range matching {
				if f != best {
					o.drop(t, f, "one")
				}
			}
			if got := o.s.Find("a/b"); !slices.Contains(got, api.Entry{Key: "one", QoS: 0}) {
				t.Fatalf("P10.2: Find, but one filter being left: %s", told(got))
			}
			o.hold(t, matching, []string{"a/b", "a", "b", "a/b/c"})
		}
	}
}

func TestSubsFindOfNoTopic(t *testing.T) {
	o := newTrio()
	for i, f := range append(fewFilters(3), strings.Repeat("a", maxText), strings.Repeat("+/", maxText/2)+"#") {
		o.put(t, f, fmt.Sprint(i%5), 1)
	}
	for _, text := range noTopic() {
		if got := o.s.Find(text); len(got) != 0 {
			t.Errorf("P10.2: Find(%.20q): %s", text, told(got))
		}
	}
}

func TestSubsFindOfHiddenTopics(t *testing.T) {
	s := list.NewSubs()
	for _, f := range []string{"#", "+", "+/#", "+/b", "+/+", "/#", "$", "$/b", "$/+", "$/#", "$a/#", "$a/+", "a/#"} {
		s.Put(f, f, 1)
	}
	for text, want := range map[string][]string{
		"$": {"$", "$/#"}, "$/b": {"$/#", "$/+", "$/b"}, "$a": {"$a/#"}, "$a/b": {"$a/#", "$a/+"}, "$b/b": nil,
		"a/$": {"#", "+/#", "+/+", "a/#"}, "/$": {"#", "+/#", "+/+", "/#"},
	} {
		if got := keysOf(s.Find(text)); !slices.Equal(got, want) {
			t.Errorf("P10.2: Find(%q): %q, want %q", text, got, want)
		}
	}
}

func TestSubsFindAtTheEdges(t *testing.T) {
	o := newTrio()
	deep := strings.Repeat("/", maxText)
	for i, f := range []string{deep, deep[:maxText-2] + "/#", deep[:maxText-1] + "+", strings.Repeat("+/", maxText/2) + "+", strings.Repeat("+/", maxText/2) + "#", "#", "/#", strings.Repeat("a", maxText)} {
		o.put(t, f, fmt.Sprint(i), i%3)
	}
	o.hold(t, nil, []string{deep, deep[1:], deep[2:], deep[:maxText/2], deep[:maxText-1] + "a", strings.Repeat("a", maxText), strings.Repeat("a", maxText-1), deep + "/"})
}

// TestSubsRandomLife: P10.4: long lives, behind each step of which all three tell the same.
func TestSubsRandomLife(t *testing.T) {
	r := rand.New(rand.NewSource(108))
	filters, topics := fewFilters(3), append(fewTopics(3), "", "+", "a/#")
	for life := range 40 {
		o, keys := newTrio(), fewKeys()[:2+life%10]
		few := shuffled(r, filters)[:5+r.Intn(40)]
		for range 200 {
			o.step(t, r, few, keys)
			o.hold(t, []string{someOf(r, few), someOf(r, filters)}, []string{someOf(r, topics), someOf(r, topics)})
		}
		o.hold(t, filters, topics)
	}
}

// TestSubsOfMany: many filters, and many keys at one.
func TestSubsOfMany(t *testing.T) {
	o := newTrio()
	const many = 3000
	for i := range many {
		o.put(t, fmt.Sprintf("a/%d", i), "x", i%3)
		o.put(t, "a/+", fmt.Sprint(i), i%3)
	}
	o.hold(t, []string{"a/+", "a/7"}, []string{"a/7", "a/b", "b"})
	for i := range many {
		if i%7 > 0 {
			o.drop(t, "a/+", fmt.Sprint(i))
			o.drop(t, fmt.Sprintf("a/%d", i), "x")
		}
	}
	o.hold(t, []string{"a/+", "a/7", "a/8"}, []string{"a/7", "a/8", "a/b", "b"})
	o.leave(t, "x")
	o.hold(t, []string{"a/+", "a/7"}, []string{"a/7", "a/b"})
}

// TestSubsOrderOfLayingDown: P10.5: all orders of what is laid down; each time with something that is dropped again.
func TestSubsOrderOfLayingDown(t *testing.T) {
	rows := []row{{"a/+", "x", 1}, {"a/b", "x", 2}, {"a/b", "", 0}, {"#", "y", 1}, {"+/b", "y", 0}}
	filters := fewFilters(2)
	for _, order := range eachOrder(rows) {
		for extra := range rows {
			o := newTrio()
			for i, c := range order {
				if i == extra {
					o.s.Put("a/+", "z", 2)
					o.s.Put("c", "x", 1)
					o.s.Put("a/b", "z", 0)
					o.s.Put(c.filter, c.key, 2-c.qos)
				}
				o.s.Put(c.filter, c.key, c.qos)
			}
			if !o.s.Drop("c", "x") || o.s.Leave("z") != 2 {
				t.Fatal("P10.1: Drop and Leave of what was put")
			}
			for _, c := range rows {
				o.x.Put(c.filter, c.key, c.qos)
				o.m.put(c.filter, c.key, c.qos)
			}
			o.hold(t, filters, []string{"a/b", "a", "b", "$", "c"})
		}
	}
}

// TestSubsOtherLives: P10.5: long lives that end with the same things tell the same, and answer the same from then on.
func TestSubsOtherLives(t *testing.T) {
	r := rand.New(rand.NewSource(109))
	filters, topics := fewFilters(2), fewTopics(2)
	for range 60 {
		plain := filled(t, r, filters, r.Intn(60))
		other := newTrio()
		for range r.Intn(100) {
			other.step(t, r, filters, fewKeys())
		}
		var rows []row
		for f, e := range plain.s.All() {
			rows = append(rows, row{f, e.Key, e.QoS})
		}
		for _, c := range shuffled(r, rows) {
			other.put(t, c.filter, c.key, c.qos)
		}
		for f, keys := range other.m {
			for key := range keys {
				if _, stays := plain.m[f][key]; !stays {
					other.drop(t, f, key)
				}
			}
		}
		other.hold(t, filters, topics)
		trio{other.s, plain.x, plain.m}.hold(t, filters, topics)
		for range 30 {
			trio{other.s, plain.x, plain.m}.step(t, r, filters, fewKeys())
		}
		trio{other.s, plain.x, plain.m}.hold(t, filters, topics)
	}
}
