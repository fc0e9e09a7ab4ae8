package audit_test

import (
	"fmt"
	"math/rand"
	"slices"
	"strings"
	"testing"

	"crier/api"
	"crier/audit"
	"crier/cover"
)

// entries tells entries of keys and qualities by turns.
func entries(l ...any) []api.Entry {
	var all []api.Entry
	for i := 0; i < len(l); i += 2 {
		all = append(all, api.Entry{Key: l[i].(string), QoS: l[i+1].(int)})
	}
	return all
}

func example() api.Image {
	return of("c", api.Ask{Filter: "a/+", QoS: 1}, api.Ask{Filter: "a/b", QoS: 1}, api.Ask{Filter: "a/c", QoS: 2})
}

// TestWhoExamples: the chapter's.
func TestWhoExamples(t *testing.T) {
	m := example()
	want(t, "P21.2: a/c at 1", audit.Who(m, note("a/c", 1)), entries("c", 1))
	want(t, "P21.2: a/b at 2", audit.Who(m, note("a/b", 2)), entries("c", 1))
	want(t, "P21.2: b", audit.Who(m, note("b", 2)), entries())
	want(t, "P21.3: +/b", audit.Could(m, "+/b"), entries("c", 1))
	want(t, "P21.3: #", audit.Could(m, "#"), entries("c", 2))
	want(t, "P21.3: b/#", audit.Could(m, "b/#"), entries())
}

// TestWhoQualities: the lesser one of the message's and of the greatest of all filters that match, wherever it stands; what is no quality counts for nothing.
func TestWhoQualities(t *testing.T) {
	for _, q := range []int{-1, 0, 1, 2, 3} {
		for _, p := range []int{-1, 0, 1, 2, 3} {
			for _, x := range []int{-1, 0, 1, 2, 3} {
				m := of("c", api.Ask{Filter: "a", QoS: q}, api.Ask{Filter: "b", QoS: 2}, api.Ask{Filter: "+", QoS: p}, api.Ask{Filter: "a+", QoS: 2})
				greatest := -1
				for _, n := range []int{q, p} {
					if isQoS(n) {
						greatest = max(greatest, n)
					}
				}
				var who, could []api.Entry
				if greatest >= 0 {
					could = entries("c", greatest)
				}
				if greatest >= 0 && isQoS(x) {
					who = entries("c", min(greatest, x))
				}
				what := fmt.Sprintf("%d and %d, asked at %d", q, p, x)
				want(t, "P21.2: "+what, audit.Who(m, note("a", x)), who)
				want(t, "P21.3: "+what, audit.Could(m, "a"), could)
			}
		}
	}
	for _, n := range noQoS() {
		want(t, "P21.2: no quality of a message", audit.Who(of("c", api.Ask{Filter: "a", QoS: 1}), note("a", n)), entries())
		want(t, "P21.2: no quality of a filter", audit.Who(of("c", api.Ask{Filter: "a", QoS: n}), note("a", 1)), entries())
		want(t, "P21.2: no quality of a filter", audit.Who(of("c", api.Ask{Filter: "a", QoS: n}, api.Ask{Filter: "#", QoS: 0}), note("a", 1)), entries("c", 0))
		want(t, "P21.3: no quality of a filter", audit.Could(of("c", api.Ask{Filter: "a", QoS: n}), "a"), entries())
		want(t, "P21.3: no quality of a filter", audit.Could(of("c", api.Ask{Filter: "a", QoS: n}, api.Ask{Filter: "#", QoS: 1}), "a"), entries("c", 1))
	}
}

// TestWhoOrder: by client, byte by byte, each once, though its sessions are several and stand apart.
func TestWhoOrder(t *testing.T) {
	var m api.Image
	for _, e := range entries("b", 0, "a/b", 2, "", 2, "a.b", 1, "é", 2, "b", 1, "\xFF", 0, "a", 2, "B", 0, "b", 0, "\x00", 2, "", 1, "zz", 1) {
		m.Sessions = append(m.Sessions, api.Session{Client: e.Key, Subs: []api.Ask{{Filter: "t", QoS: e.QoS}}})
	}
	m.Sessions = append(m.Sessions, api.Session{Client: "zz", Subs: []api.Ask{{Filter: "u", QoS: 2}}}, api.Session{Client: "x"})
	all := entries("", 2, "\x00", 2, "B", 0, "a", 2, "a.b", 1, "a/b", 2, "b", 1, "zz", 1, "é", 2, "\xFF", 0)
	want(t, "P21.2: some clients", audit.Who(m, note("t", 2)), all)
	want(t, "P21.3: some clients", audit.Could(m, "t"), all)
	for i, e := range all {
		all[i].QoS = min(e.QoS, 1)
	}
	want(t, "P21.2: some clients at 1", audit.Who(m, note("t", 1)), all)
}

// TestWhoMany: as many clients as can be, turned round.
func TestWhoMany(t *testing.T) {
	var m api.Image
	var all []api.Entry
	for i := range 65536 {
		m.Sessions = append(m.Sessions, api.Session{Client: name(i), Subs: []api.Ask{{Filter: "+", QoS: i % 3}}})
		all = append(all, api.Entry{Key: name(i), QoS: i % 3})
	}
	slices.Reverse(m.Sessions)
	if got := audit.Who(m, note("t", 2)); !slices.Equal(got, all) {
		t.Errorf("P21.2: many clients: %d, %.300v", len(got), got)
	}
	if got := audit.Could(m, "#"); !slices.Equal(got, all) {
		t.Errorf("P21.3: many clients: %d, %.300v", len(got), got)
	}
}

// TestWhoWrong: what is no topic, or no filter, fits nothing.
func TestWhoWrong(t *testing.T) {
	all := []api.Ask{{Filter: "#", QoS: 2}, {Filter: "+/#", QoS: 2}, {Filter: "$/#", QoS: 2}, {Filter: "+", QoS: 2}, {Filter: "a", QoS: 2}}
	for _, s := range noTopics() {
		subs := append([]api.Ask{{Filter: s, QoS: 2}}, all...)
		want(t, "P21.2: no topic", audit.Who(of("c", subs...), note(s, 1)), entries())
	}
	for _, s := range noFilters() {
		subs := append([]api.Ask{{Filter: s, QoS: 2}}, all...)
		want(t, "P21.3: no filter is asked", audit.Could(of("c", subs...), s), entries())
		want(t, "P21.2: no filter is there", audit.Who(of("c", api.Ask{Filter: s, QoS: 2}), note("a", 1)), entries())
		want(t, "P21.3: no filter is there", audit.Could(of("c", api.Ask{Filter: s, QoS: 2}), "#"), entries())
		if s != "" && isText(s) {
			want(t, "P21.2: a text that is no filter", audit.Who(of("c", api.Ask{Filter: s, QoS: 2}), note(strings.NewReplacer("+", "x", "#", "x").Replace(s), 1)), entries())
		}
	}
	want(t, "P21.2: nothing", audit.Who(api.Image{}, note("a", 1)), entries())
	want(t, "P21.3: nothing", audit.Could(api.Image{}, "a"), entries())
	want(t, "P21.2: the rest of an image", audit.Who(api.Image{Retained: full().Retained, Sessions: []api.Session{{Client: "c", Window: full().Sessions[0].Window}}}, note("a/b", 1)), entries())
}

// TestCouldRoom: a topic has at most MaxText bytes: that, too, keeps filters apart.
func TestCouldRoom(t *testing.T) {
	a, b := strings.Repeat("a", 40000), strings.Repeat("b", 40000)
	want(t, "P21.3: 80001 bytes", audit.Could(of("c", api.Ask{Filter: a + "/+", QoS: 1}), "+/"+b), entries())
	want(t, "P21.3: 60001 bytes", audit.Could(of("c", api.Ask{Filter: a[:30000] + "/+", QoS: 1}), "+/"+b[:30000]), entries("c", 1))
	want(t, "P21.3: 65535 bytes", audit.Could(of("c", api.Ask{Filter: a + "/+", QoS: 1}), "+/"+b[:maxText-1-40000]), entries("c", 1))
	want(t, "P21.3: 65536 bytes", audit.Could(of("c", api.Ask{Filter: a + "/+", QoS: 1}), "+/"+b[:maxText-40000]), entries())
}

// asked: P21.2 and P21.3, of a question.
func asked(m api.Image, most int, holds func(filter string) bool) []api.Entry {
	var l []api.Entry
	for _, s := range m.Sessions {
		for _, a := range s.Subs {
			if !isQoS(a.QoS) || !holds(a.Filter) {
				continue
			}
			i := slices.IndexFunc(l, func(e api.Entry) bool { return e.Key == s.Client })
			if i < 0 {
				i = len(l)
				l = append(l, api.Entry{Key: s.Client})
			}
			l[i].QoS = max(l[i].QoS, min(a.QoS, most))
		}
	}
	slices.SortFunc(l, func(a, b api.Entry) int { return strings.Compare(a.Key, b.Key) })
	return l
}

// TestWhoSome: P21.2 of images that no broker made, at all qualities.
func TestWhoSome(t *testing.T) {
	r := rand.New(rand.NewSource(212))
	filters, topics := fewFilters(), append(fewTopics(), "", "+", "a/#", "\xFF")
	found := 0
	for range 3000 {
		m := someImage(r, filters, true)
		for range 5 {
			x := api.Message{Topic: pick(r, topics...), QoS: r.Intn(3), Retain: r.Intn(2) == 0}
			got := audit.Who(m, x)
			all := asked(m, x.QoS, func(filter string) bool { return matches(filter, x.Topic) })
			if drawn(got) != drawn(all) {
				t.Fatalf("P21.2: %v: Who of %+v: %v, want %v", m, x, got, all)
			}
			found += len(got)
		}
	}
	if found < 10000 {
		t.Errorf("only %d found", found)
	}
}

// TestCouldSome: P21.3 of images that no broker made, held against the topics that both match.
func TestCouldSome(t *testing.T) {
	r := rand.New(rand.NewSource(213))
	filters, topics := fewFilters(), fewTopics()
	found := 0
	for range 300 {
		m := someImage(r, filters, true)
		for range 3 {
			f := pick(r, append([]string{"a+", "", "#", "$/#"}, filters...)...)
			meets := func(filter string) bool {
				return slices.ContainsFunc(topics, func(s string) bool { return matches(filter, s) && matches(f, s) })
			}
			got := audit.Could(m, f)
			if all := asked(m, 2, meets); drawn(got) != drawn(all) {
				t.Fatalf("P21.3: %v: Could of %q: %v, want %v", m, f, got, all)
			}
			found += len(got)
		}
	}
	if found < 1000 {
		t.Errorf("only %d found", found)
	}
}

// TestWhoWithinCould: P21.8.
func TestWhoWithinCould(t *testing.T) {
	r := rand.New(rand.NewSource(218))
	filters, topics := fewFilters(), fewTopics()
	held := 0
	for range 2000 {
		m := someImage(r, filters, true)
		x := api.Message{Topic: pick(r, topics...), QoS: r.Intn(3)}
		who := audit.Who(m, x)
		for _, f := range append(filters, x.Topic) {
			if !matches(f, x.Topic) {
				continue
			}
			if _, ok := cover.Meet(f, x.Topic); !ok {
				t.Fatalf("%q doesn't meet %q", f, x.Topic)
			}
			could := audit.Could(m, f)
			for _, e := range who {
				if !slices.ContainsFunc(could, func(c api.Entry) bool { return c.Key == e.Key && c.QoS >= e.QoS }) {
					t.Fatalf("P21.8: %v: Who of %+v: %v, Could of %q: %v", m, x, who, f, could)
				}
				held++
			}
		}
	}
	if held < 5000 {
		t.Errorf("only %d held", held)
	}
}
