package list_test

import (
	"fmt"
	"iter"
	"math/rand"
	"slices"
	"strings"
	"testing"

	"crier/api"
	"crier/list"
	"crier/topic"
)

// TestKeptFindOfOneTopic: each topic alone, by each filter.
func TestKeptFindOfOneTopic(t *testing.T) {
	filters := append(fewFilters(3), noFilter()[:7]...)
	for _, s := range fewTopics(3) {
		k := list.NewKept()
		k.Put(plain(s))
		for _, f := range filters {
			if got, want := len(topicsOf(k.Find(f))) == 1, topic.Match(f, s); got != want {
				t.Errorf("P10.3: Find(%q) of %q: %t", f, s, got)
			}
		}
	}
}

// TestKeptFindOfAllTopics: all topics at once, by filters with signs at each place.
func TestKeptFindOfAllTopics(t *testing.T) {
	r := rand.New(rand.NewSource(111))
	o := newStore()
	for _, s := range shuffled(r, fewTopics(3)) {
		o.put(t, some(r, s))
	}
	o.hold(t, fewTopics(3), fewFilters(3))
}

func TestKeptFindOfNoFilter(t *testing.T) {
	k := list.NewKept()
	for _, s := range append(fewTopics(3), strings.Repeat("a", maxText)) {
		k.Put(plain(s))
	}
	for _, f := range noFilter() {
		if got := topicsOf(k.Find(f)); len(got) != 0 {
			t.Errorf("P10.3: Find(%.20q): %q", f, got)
		}
	}
}

func TestKeptFindOfHiddenTopics(t *testing.T) {
	k := list.NewKept()
	for _, s := range []string{"$", "$a", "$a/b", "$/b", "a/$", "/$", "$a/b/c", "$$", "b"} {
		k.Put(plain(s))
	}
	for f, want := range map[string][]string{
		"#": {"/$", "a/$", "b"}, "+": {"b"}, "+/#": {"/$", "a/$", "b"}, "+/b": nil, "+/+": {"/$", "a/$"}, "+/$": {"/$", "a/$"},
		"$": {"$"}, "$/#": {"$", "$/b"}, "$/+": {"$/b"}, "$a/#": {"$a", "$a/b", "$a/b/c"}, "$a/+": {"$a/b"}, "$a/+/+": {"$a/b/c"}, "$$/#": {"$$"}, "/+": {"/$"}, "a/#": {"a/$"},
	} {
		if got := topicsOf(k.Find(f)); !slices.Equal(got, want) {
			t.Errorf("P10.3: Find(%q): %q, want %q", f, got, want)
		}
	}
}

func TestKeptAllInOrder(t *testing.T) {
	r := rand.New(rand.NewSource(112))
	want := []string{"/a", "\x01", "$a", "a", "a/", "a//", "a/b", "a/b/c", "a\x01", "a.b", "ab", "b", "\u00E4", "\U00010000"}
	for range 50 {
		k := list.NewKept()
		for _, s := range shuffled(r, want) {
			k.Put(plain(s))
		}
		if got := topicsOf(k.All()); !slices.Equal(got, want) {
			t.Fatalf("P10.3: All: %q, want %q", got, want)
		}
		if got := topicsOf(k.Find("#")); !slices.Equal(got, slices.Delete(slices.Clone(want), 2, 3)) {
			t.Fatalf("P10.3: Find(#): %q", got)
		}
	}
}

func TestKeptFindAtTheEdges(t *testing.T) {
	o := newStore()
	deep := strings.Repeat("/", maxText)
	for _, s := range []string{deep, deep[1:], deep[2:], deep[:maxText/2], deep[:maxText-1] + "a", strings.Repeat("a", maxText), strings.Repeat("a", maxText-1), strings.Repeat("a/", maxText/2) + "a"} {
		o.put(t, plain(s))
	}
	signs := strings.Repeat("+/", maxText/2)
	o.hold(t, []string{deep, deep[1:], deep[3:], deep + "/"}, []string{deep, deep[1:], deep[3:], deep[:maxText-2] + "/#", deep[:maxText-1] + "+", signs + "+", signs + "#", signs + "+/", "#", "+", "/#", "+/#", strings.Repeat("a", maxText), strings.Repeat("a", maxText-2) + "/#"})
}

// walk: an iterator and what it is to give.
type walk struct {
	name string
	give iter.Seq[api.Message]
	want string
}

// walks tells iterators of all kinds.
func (o store) walks() []walk {
	l := []walk{{"All", o.k.All(), o.m.all()}}
	for _, f := range []string{"#", "+", "+/+", "a/#", "a/+", "+/a/#", "$/#", "a", "none"} {
		l = append(l, walk{"Find(" + f + ")", o.k.Find(f), o.m.find(f)})
	}
	return l
}

// TestKeptIsLeft: an iterator is left behind each of its messages, and asks no more then.
func TestKeptIsLeft(t *testing.T) {
	o := newStore()
	for _, s := range fewTopics(2) {
		o.put(t, plain(s))
	}
	for _, w := range o.walks() {
		rows := strings.SplitAfter(w.want, "\n")
		for enough := 1; enough < len(rows); enough++ {
			got, asked := "", 0
			w.give(func(m api.Message) bool {
				asked++
				got += line(m)
				return asked < enough
			})
			if asked != enough || got != strings.Join(rows[:enough], "") {
				t.Fatalf("P10.3: %s, left behind %d: %d times asked\n%s", w.name, enough, asked, got)
			}
		}
	}
}

// TestKeptWithinItself: an iterator is gone through again, and within itself.
func TestKeptWithinItself(t *testing.T) {
	o := stored(t, rand.New(rand.NewSource(113)), fewTopics(2), 40)
	for _, w := range o.walks() {
		outer := ""
		for one := range w.give {
			if inner := lines(w.give); inner != w.want {
				t.Fatalf("P10.3: %s within itself:\n%s", w.name, inner)
			}
			for range w.give {
				break
			}
			o.hold(t, []string{one.Topic}, []string{one.Topic, "#"})
			outer += line(one)
		}
		if outer != w.want {
			t.Errorf("P10.3: %s around itself:\n%s", w.name, outer)
		}
		if again := lines(w.give); again != w.want {
			t.Errorf("P10.3: %s again:\n%s", w.name, again)
		}
	}
}

// TestKeptGivesWhatIsHeldThen: rule 7: what counts is what is held when an iterator is gone through.
func TestKeptGivesWhatIsHeldThen(t *testing.T) {
	o := newStore()
	all, some := o.k.All(), o.k.Find("a/#")
	hold := func(when string) {
		t.Helper()
		if got := lines(all); got != o.m.all() {
			t.Errorf("P10.3: All, asked for ahead of %s:\n%s", when, got)
		}
		if got := lines(some); got != o.m.find("a/#") {
			t.Errorf("P10.3: Find, asked for ahead of %s:\n%s", when, got)
		}
	}
	hold("nothing")
	o.put(t, plain("a"))
	hold("Put")
	o.put(t, plain("a/b"))
	o.put(t, api.Message{Topic: "a", Payload: []byte("new"), QoS: 2})
	o.put(t, plain("b"))
	hold("further Puts")
	o.drop(t, "a")
	hold("Drop")
	o.drop(t, "b")
	o.drop(t, "a/b")
	hold("the last Drop")
}

// TestKeptRandomLife: P10.4: long lives, behind each step of which all three tell the same.
func TestKeptRandomLife(t *testing.T) {
	r := rand.New(rand.NewSource(114))
	topics, filters := fewTopics(3), append(fewFilters(3), "", "a+", "#/a")
	for range 40 {
		o := newStore()
		few := shuffled(r, topics)[:5+r.Intn(40)]
		for range 200 {
			o.step(t, r, few)
			o.hold(t, []string{someOf(r, few), someOf(r, topics)}, []string{someOf(r, filters), someOf(r, filters)})
		}
		o.hold(t, topics, filters)
	}
}

func TestKeptOfMany(t *testing.T) {
	o := newStore()
	const many = 3000
	for i := range many {
		o.put(t, plain(fmt.Sprintf("a/%d", i)))
	}
	o.hold(t, []string{"a/7", "a/8", "a"}, []string{"#", "a/7", "a/+"})
	for i := range many {
		if i%7 > 0 {
			o.drop(t, fmt.Sprintf("a/%d", i))
		}
	}
	o.hold(t, []string{"a/7", "a/8", "a"}, []string{"#", "a/7", "a/8"})
}

// TestKeptOrderOfLayingDown: P10.5: all orders of what is laid down; each time with something that is dropped again.
func TestKeptOrderOfLayingDown(t *testing.T) {
	topics, filters := []string{"a/b", "a", "$a", "a/b/c", "/"}, fewFilters(2)
	for _, order := range eachOrder(topics) {
		for extra := range order {
			o := newStore()
			for i, s := range order {
				if i == extra {
					o.k.Put(plain("c"))
					o.k.Put(api.Message{Topic: s, Payload: []byte("other"), Retain: true})
					o.k.Put(plain("a/c"))
				}
				o.k.Put(plain(s))
			}
			if !o.k.Drop("c") || !o.k.Drop("a/c") {
				t.Fatal("P10.3: Drop of what was put")
			}
			for _, s := range topics {
				o.x.Put(plain(s))
				o.m.put(plain(s))
			}
			o.hold(t, append(topics, "c", "a/c"), filters)
		}
	}
}

// TestKeptOtherLives: P10.5: long lives that end with the same things tell the same, and answer the same from then on.
func TestKeptOtherLives(t *testing.T) {
	r := rand.New(rand.NewSource(115))
	topics, filters := fewTopics(2), fewFilters(2)
	for range 60 {
		first := stored(t, r, topics, r.Intn(30))
		other := newStore()
		for range r.Intn(100) {
			other.step(t, r, topics)
		}
		for _, m := range shuffled(r, slices.Collect(first.k.All())) {
			other.put(t, m)
		}
		for s := range other.m {
			if _, stays := first.m[s]; !stays {
				other.drop(t, s)
			}
		}
		other.hold(t, topics, filters)
		both := store{other.k, first.x, first.m}
		both.hold(t, topics, filters)
		for range 30 {
			both.step(t, r, topics)
		}
		both.hold(t, topics, filters)
	}
}
