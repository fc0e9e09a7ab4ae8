package audit_test

import (
	"math/rand"
	"slices"
	"testing"

	"crier/api"
	"crier/audit"
)

// TestKeptEdges: what matches, in topic's order, each with the lesser quality and all else as it stands.
func TestKeptEdges(t *testing.T) {
	m := api.Image{Retained: []api.Message{
		kept("b", 2), kept("a.b", 1), kept("a/b", 2), kept("$a", 2), kept("a", 0), kept("/a", 1), kept("a/b/c", 1), kept("a/", 2), kept("+", 2), kept("", 2), kept("a\x00", 2),
	}}
	for _, c := range []struct {
		a    api.Ask
		want []api.Message
	}{
		{api.Ask{Filter: "#", QoS: 2}, []api.Message{kept("/a", 1), kept("a", 0), kept("a/", 2), kept("a/b", 2), kept("a/b/c", 1), kept("a.b", 1), kept("b", 2)}},
		{api.Ask{Filter: "#", QoS: 1}, []api.Message{with(kept("/a", 1), 1), kept("a", 0), with(kept("a/", 2), 1), with(kept("a/b", 2), 1), kept("a/b/c", 1), kept("a.b", 1), with(kept("b", 2), 1)}},
		{api.Ask{Filter: "+", QoS: 0}, []api.Message{kept("a", 0), with(kept("a.b", 1), 0), with(kept("b", 2), 0)}},
		{api.Ask{Filter: "a/#", QoS: 2}, []api.Message{kept("a", 0), kept("a/", 2), kept("a/b", 2), kept("a/b/c", 1)}},
		{api.Ask{Filter: "$a", QoS: 2}, []api.Message{kept("$a", 2)}},
		{api.Ask{Filter: "$a/#", QoS: 1}, []api.Message{with(kept("$a", 2), 1)}},
		{api.Ask{Filter: "c", QoS: 2}, nil},
	} {
		want(t, "P21.4: "+c.a.Filter, audit.Kept(m, c.a), c.want)
	}
	for _, n := range noQoS() {
		want(t, "P21.4: no quality", audit.Kept(m, api.Ask{Filter: "#", QoS: n}), []api.Message(nil))
	}
	for _, f := range noFilters() {
		m.Retained[0].Topic = f
		want(t, "P21.4: no filter", audit.Kept(m, api.Ask{Filter: f, QoS: 1}), []api.Message(nil))
	}
	want(t, "P21.4: nothing", audit.Kept(api.Image{}, api.Ask{Filter: "#"}), []api.Message(nil))
}

// with tells a message with another quality.
func with(m api.Message, qos int) api.Message {
	m.QoS = qos
	return m
}

// TestKeptWrong: messages that can't be retained are told all the same, if their topics are topics.
func TestKeptWrong(t *testing.T) {
	for _, x := range []api.Message{{Topic: "a"}, {Topic: "a", Payload: []byte{1}}, {Topic: "a", Retain: true}, {Topic: "a", QoS: 3}, {Topic: "a", QoS: 1 << 40, Retain: true}, {Topic: "a", QoS: -1}, {Topic: "a", QoS: -1 << 63}} {
		for q := range 3 {
			want(t, "P21.4: a message that can't be", audit.Kept(api.Image{Retained: []api.Message{x}}, api.Ask{Filter: "+", QoS: q}), []api.Message{with(x, min(x.QoS, q))})
		}
	}
	m := full()
	m.Retained = nil
	want(t, "P21.4: what is under way or waits", audit.Kept(m, api.Ask{Filter: "#", QoS: 2}), []api.Message(nil))
}

// TestKeptSome: P21.4 of messages in any order, of one topic as they stand: their payloads tell their places.
func TestKeptSome(t *testing.T) {
	r := rand.New(rand.NewSource(214))
	filters, topics := append(fewFilters(), "a+", ""), append(fewTopics(), "+", "", "\xFF")
	often := []string{"a", "a/b", "a//b", "b", "/", "a.b", "$", "c"}
	found, same := 0, 0
	for range 2000 {
		var m api.Image
		for i := range r.Intn(60) {
			x := api.Message{Topic: pick(r, topics...), Payload: []byte{byte(i)}, QoS: someQoS(r, true), Retain: r.Intn(3) > 0}
			if r.Intn(2) == 0 {
				x.Topic = pick(r, often...)
			}
			m.Retained = append(m.Retained, x)
		}
		a := api.Ask{Filter: pick(r, filters...), QoS: r.Intn(3)}
		if r.Intn(3) == 0 {
			a.Filter = pick(r, "#", "+", "a/#", "+/+")
		}
		got := audit.Kept(m, a)
		if all := keptOf(m, a); drawn(got) != drawn(all) {
			t.Fatalf("P21.4: %v: Kept of %+v: %v, want %v", m, a, got, all)
		}
		found += len(got)
		for i := range got {
			if i > 0 && got[i-1].Topic == got[i].Topic {
				same++
			}
		}
	}
	if found < 5000 || same < 1000 {
		t.Errorf("only %d found, %d of the topic ahead", found, same)
	}
}

// keptOf: P21.4, by putting each behind all that don't stand behind it.
func keptOf(m api.Image, a api.Ask) []api.Message {
	var l []api.Message
	for _, x := range m.Retained {
		if !matches(a.Filter, x.Topic) {
			continue
		}
		i := len(l)
		for i > 0 && ahead(x.Topic, l[i-1].Topic) {
			i--
		}
		l = slices.Insert(l, i, with(x, min(x.QoS, a.QoS)))
	}
	return l
}

// TestKeptMany: more than there may ever be, turned round.
func TestKeptMany(t *testing.T) {
	var m api.Image
	const many = 1<<20 + 1
	for i := range many {
		m.Retained = append(m.Retained, api.Message{Topic: name(many - 1 - i), Payload: []byte{byte(i)}, QoS: 2, Retain: true})
	}
	got := audit.Kept(m, api.Ask{Filter: "+", QoS: 1})
	if len(got) != many {
		t.Fatalf("P21.4: %d of %d", len(got), many)
	}
	for i, x := range got {
		if x.Topic != name(i) || x.QoS != 1 || len(x.Payload) != 1 || x.Payload[0] != byte(many-1-i) {
			t.Fatalf("P21.4: the %dth: %v", i, x)
		}
	}
}
