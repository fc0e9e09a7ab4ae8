package list_test

import (
	"fmt"
	"math/rand"
	"slices"
	"strings"
	"testing"

	"crier/api"
	"crier/list"
)

func TestSubsExample(t *testing.T) {
	s := list.NewSubs()
	for _, c := range []row{{"+/b", "x", 0}, {"a/#", "x", 2}, {"#", "y", 1}} {
		if old, e := s.Put(c.filter, c.key, c.qos); old != -1 || e != api.OK {
			t.Errorf("P10.1: Put of %v: %d, %d", c, old, e)
		}
	}
	for topic, want := range map[string]string{"a/b": `["x" 2]["y" 1]`, "b/b": `["x" 0]["y" 1]`, "$a/b": ""} {
		if got := told(s.Find(topic)); got != want {
			t.Errorf("P10.2: Find(%q): %s, want %s", topic, got, want)
		}
	}
	if s.Len() != 3 || s.Leave("x") != 2 || s.Len() != 1 {
		t.Errorf("P10.1: Len behind Leave: %d", s.Len())
	}
	if old, e := s.Put("a#", "x", 0); old != 0 || e != api.ErrSubtrieFilter {
		t.Errorf("P10.1: Put of a#: %d, %d", old, e)
	}
	if old, e := s.Put("a", "x", 3); old != 0 || e != api.ErrSubtrieQoS {
		t.Errorf("P10.1: Put at 3: %d, %d", old, e)
	}
}

func TestSubsOfNothing(t *testing.T) {
	o := newTrio()
	filters, topics := append(noFilter(), fewFilters(2)...), append(noTopic(), fewTopics(2)...)
	nothing := func() {
		t.Helper()
		o.hold(t, filters, topics)
		if o.s.All() == nil {
			t.Error("P10.1: All is nil")
		}
		for _, f := range []string{"", "a", "#", "a#"} {
			o.drop(t, f, "")
			o.drop(t, f, "x")
		}
		o.leave(t, "")
		o.leave(t, "x")
	}
	nothing()
	o.put(t, "a", "x", 1)
	o.drop(t, "a", "x")
	nothing()
}

// TestSubsPut: a new key, and one that is there, with another quality and with the same one.
func TestSubsPut(t *testing.T) {
	o := newTrio()
	filters := []string{"a", "a/b", "/", "#", "+", "+/#", "$", "$/#", "a//+", strings.Repeat("a", maxText), strings.Repeat("/", maxText), strings.Repeat("+/", maxText/2) + "#", "\U0010FFFF/\u0001"}
	for _, f := range filters {
		for _, key := range append(fewKeys(), strings.Repeat("k", maxText+1)) {
			for _, qos := range []int{1, 1, 2, 0, 0, 2, 2, 1, 0} {
				o.put(t, f, key, qos)
			}
			o.put(t, f, key, len(f)%3)
			if want := (api.Entry{Key: key, QoS: len(f) % 3}); !slices.Contains(o.s.Of(f), want) {
				t.Errorf("P10.1: Of(%.40q) hasn't %.40v", f, want)
			}
		}
	}
	o.hold(t, filters, nil)
	if o.s.Len() != len(filters) {
		t.Errorf("P10.1: Len: %d", o.s.Len())
	}
}

// TestSubsPutRefuses: the filter's error is the first; a refused Put changes nothing, of what is there neither.
func TestSubsPutRefuses(t *testing.T) {
	r := rand.New(rand.NewSource(101))
	filters := fewFilters(2)
	o := filled(t, r, filters, 40)
	for _, f := range noFilter() {
		for _, qos := range append(noQoS(), 0, 1, 2) {
			o.refuse(t, f, "x", qos, api.ErrSubtrieFilter)
			o.refuse(t, f, "", qos, api.ErrSubtrieFilter)
		}
	}
	for _, f := range append(filters, "c/d/e", strings.Repeat("a", maxText)) {
		for _, qos := range noQoS() {
			o.refuse(t, f, "a", qos, api.ErrSubtrieQoS)
			o.refuse(t, f, "new", qos, api.ErrSubtrieQoS)
		}
	}
	o.hold(t, append(noFilter(), filters...), fewTopics(2))
}

// TestSubsDrop: of what is there, of what was dropped, and of what never was.
func TestSubsDrop(t *testing.T) {
	filters := []string{"a/b/c", "a/b/d", "/a", "+/a", "#", "$/#"}
	others := append(noFilter(), "a", "a/b", "a/b/c/d", "a/b/e", "a/+/c", "a/#", "/", "a/b/", "b", "+", "$")
	for _, order := range eachOrder([]int{0, 1, 2, 3}) {
		o := newTrio()
		for i, f := range filters {
			o.put(t, f, "x", i%3)
			o.put(t, f, "", 2-i%3)
			if i%2 == 0 {
				o.put(t, f, "y", 1)
			}
		}
		for _, f := range others {
			for _, key := range []string{"x", "", "y"} {
				o.drop(t, f, key)
			}
		}
		o.drop(t, filters[1], "y")
		o.drop(t, filters[0], "z")
		o.hold(t, append(others, filters...), nil)
		for _, i := range order {
			for _, key := range []string{"x", "y", ""} {
				o.drop(t, filters[i], key)
				o.drop(t, filters[i], key)
				o.hold(t, filters, nil)
			}
		}
		o.put(t, filters[order[0]], "x", 1)
		o.hold(t, filters, []string{"a/b/c", "/a", "a", "$"})
	}
}

// TestSubsLeave: a key that is at some filters, alone or with others; at all; at none; and one that left.
func TestSubsLeave(t *testing.T) {
	filters := fewFilters(2)
	for _, keys := range eachOrder([]string{"x", "y", "", "z"}) {
		o := newTrio()
		for i, f := range filters {
			o.put(t, f, "x", i%3)
			if i%2 == 0 {
				o.put(t, f, "", i%3)
			}
			if i%5 < 2 {
				o.put(t, f, "z", i%3)
			}
		}
		o.drop(t, filters[0], "x")
		o.put(t, "a/b/c/d", "y", 2)
		for _, key := range append(keys, "none", keys[0]) {
			o.leave(t, key)
			o.hold(t, append(filters, "a/b/c/d"), []string{"a/b", "$/a", "/"})
			o.leave(t, key)
		}
		if o.s.Len() != 0 {
			t.Errorf("P10.1: Len when all have left: %d", o.s.Len())
		}
	}
}

// TestSubsOf: just that filter's, not those of filters that match it, or that it matches, or that begin as it does.
func TestSubsOf(t *testing.T) {
	o := newTrio()
	filters := []string{"a/b", "a/+", "a/#", "/a", "/b", "a/b/c/d", "+", "#"}
	for i, f := range filters {
		o.put(t, f, f, i%3)
		if got, want := told(o.s.Of(f)), fmt.Sprintf("[%q %d]", f, i%3); got != want {
			t.Errorf("P10.1: Of(%q): %s, want %s", f, got, want)
		}
	}
	for _, f := range append(noFilter(), "a", "b", "a/b/c", "a/b/c/d/e", "a/c", "/", "a/", "$", "+/+", "A/b") {
		if got := o.s.Of(f); len(got) != 0 {
			t.Errorf("P10.1: Of(%.20q): %s", f, told(got))
		}
	}
}

// TestKeysInOrder: byte by byte, whatever the order in which they were laid down.
func TestKeysInOrder(t *testing.T) {
	r := rand.New(rand.NewSource(102))
	for range 50 {
		o := newTrio()
		for _, key := range shuffled(r, fewKeys()) {
			o.put(t, "a/+", key, r.Intn(3))
		}
		for _, key := range shuffled(r, fewKeys()) {
			o.put(t, someOf(r, []string{"#", "a/b"}), key, r.Intn(3))
		}
		var all []string
		for f, e := range o.s.All() {
			if f == "a/+" {
				all = append(all, e.Key)
			}
		}
		for name, got := range map[string][]string{"Of": keysOf(o.s.Of("a/+")), "Find": keysOf(o.s.Find("a/b")), "All": all} {
			if !slices.Equal(got, fewKeys()) {
				t.Fatalf("P10.1: keys of %s: %q", name, got)
			}
		}
		o.hold(t, []string{"a/+", "a/b", "#"}, []string{"a/b", "a/c", "b"})
	}
}

// keysOf tells the keys of entries.
func keysOf(l []api.Entry) []string {
	var keys []string
	for _, e := range l {
		keys = append(keys, e.Key)
	}
	return keys
}

func TestSubsAllInOrder(t *testing.T) {
	r := rand.New(rand.NewSource(103))
	want := []string{"/a", "\x01", "#", "$a", "+", "+/", "+/#", "+/a", "a", "a/", "a//", "a/#", "a/+/b", "a/b", "a/b/c", "a\x01", "a.b", "ab", "b", "\u00E4", "\U00010000"}
	for range 50 {
		s := list.NewSubs()
		for _, f := range shuffled(r, want) {
			s.Put(f, "x", 1)
		}
		var got []string
		for f, e := range s.All() {
			got = append(got, f)
			if e != (api.Entry{Key: "x", QoS: 1}) {
				t.Errorf("P10.1: All gives %v at %q", e, f)
			}
		}
		if !slices.Equal(got, want) {
			t.Fatalf("P10.1: All: %q, want %q", got, want)
		}
	}
}

// TestSubsAllIsLeft: behind each thing that it gives, and it asks no more then.
func TestSubsAllIsLeft(t *testing.T) {
	o := filled(t, rand.New(rand.NewSource(104)), fewFilters(2), 90)
	all := o.s.All()
	lines := strings.SplitAfter(o.m.all(), "\n")
	for enough := 1; enough < len(lines); enough++ {
		got, asked := "", 0
		all(func(f string, e api.Entry) bool {
			asked++
			got += laid(f, e)
			return asked < enough
		})
		if asked != enough || got != strings.Join(lines[:enough], "") {
			t.Fatalf("P10.1: All, left behind %d: %d times asked\n%s", enough, asked, got)
		}
	}
}

// TestSubsAllWithinItself: and Find and Of within it.
func TestSubsAllWithinItself(t *testing.T) {
	o := filled(t, rand.New(rand.NewSource(105)), fewFilters(2), 40)
	all, want, outer := o.s.All(), o.m.all(), ""
	for f, e := range all {
		if inner := given(all); inner != want {
			t.Fatalf("P10.1: All within itself:\n%s", inner)
		}
		for range all {
			break
		}
		o.hold(t, []string{f}, []string{"a/b", "a", "$/a"})
		outer += laid(f, e)
	}
	if outer != want {
		t.Errorf("P10.1: All around itself:\n%s", outer)
	}
	if again := given(all); again != want {
		t.Errorf("P10.1: All again:\n%s", again)
	}
}

// TestSubsAllGivesWhatIsHeldThen: rule 7: what counts is what is held when it is gone through.
func TestSubsAllGivesWhatIsHeldThen(t *testing.T) {
	o := newTrio()
	all := o.s.All()
	hold := func(when string) {
		t.Helper()
		if got := given(all); got != o.m.all() {
			t.Errorf("P10.1: All, asked for ahead of %s:\n%s", when, got)
		}
	}
	hold("nothing")
	o.put(t, "a", "x", 1)
	hold("Put")
	o.put(t, "a/b", "x", 1)
	o.put(t, "a", "x", 2)
	o.put(t, "a", "", 0)
	hold("further Puts")
	o.drop(t, "a", "x")
	hold("Drop")
	o.leave(t, "x")
	hold("Leave")
	o.leave(t, "")
	hold("the last Leave")
}

// overwriteEntries writes over entries and over their spare room.
func overwriteEntries(l []api.Entry) {
	l = l[:cap(l)]
	for i := range l {
		l[i] = api.Entry{Key: "spoilt", QoS: 99}
	}
}

// TestSubsAnswersWrittenOver: rule 3: what was handed out is the caller's, its spare room too.
func TestSubsAnswersWrittenOver(t *testing.T) {
	o := filled(t, rand.New(rand.NewSource(106)), fewFilters(2), 200)
	filters, topics := fewFilters(2), fewTopics(2)
	ask := func(visit func(got, want []api.Entry)) {
		for _, f := range filters {
			visit(o.s.Of(f), byKey(o.m[f]))
		}
		for _, s := range topics {
			visit(o.s.Find(s), o.m.find(s))
		}
	}
	var answers, wants [][]api.Entry
	for range 2 {
		ask(func(got, want []api.Entry) { answers, wants = append(answers, got), append(wants, want) })
		ask(func(got, want []api.Entry) { overwriteEntries(got) })
	}
	for i := range answers {
		if !slices.Equal(answers[i], wants[i]) {
			t.Fatalf("P10.1, P10.2: answer %d shares memory with another one: %s", i, told(answers[i]))
		}
		overwriteEntries(answers[i])
	}
	o.hold(t, filters, topics)
	var kept [][]api.Entry
	ask(func(got, want []api.Entry) { kept, wants = append(kept, got), append(wants, want) })
	wants = wants[len(answers):]
	for _, key := range fewKeys() {
		o.leave(t, key)
	}
	for i := range kept {
		if !slices.Equal(kept[i], wants[i]) {
			t.Fatalf("P10.1, P10.2: Leave changes answer %d: %s", i, told(kept[i]))
		}
	}
}

func TestSubsApart(t *testing.T) {
	a, b := list.NewSubs(), list.NewSubs()
	a.Put("a/b", "x", 1)
	if b.Len() != 0 || len(b.Find("a/b")) != 0 || len(b.Of("a/b")) != 0 || given(b.All()) != "" || b.Drop("a/b", "x") || b.Leave("x") != 0 {
		t.Error("P10.1: what is put in one Subs shows in another one")
	}
}
