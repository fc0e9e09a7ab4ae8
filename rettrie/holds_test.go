package rettrie_test

import (
	"math/rand"
	"strings"
	"testing"

	"crier/api"
	"crier/rettrie"
)

func TestNothing(t *testing.T) {
	x := rettrie.New()
	holdAll(t, x, model{}, append(noTopic(), fewTopics(2)...), append(noFilter(), fewFilters(2)...))
	s := x.Shape()
	if len(s.Levels) != 0 || s.Here || len(s.Entries) != 0 || len(s.Kids) != 0 {
		t.Errorf("P9.5: the shape of an empty trie: %v", s)
	}
	if x.All() == nil || x.Find("#") == nil || x.Find("") == nil {
		t.Error("P9.4: an iterator is nil")
	}
	for _, s := range []string{"", "a", "/", "#"} {
		if x.Drop(s) {
			t.Errorf("P9.3: Drop(%q) of an empty trie: true", s)
		}
	}
}

func TestExample2(t *testing.T) {
	x := rettrie.New()
	if old, e := x.Put(api.Message{Topic: "a/+"}); old || e != api.ErrRettrieTopic {
		t.Errorf("P9.2: Put of a/+: %t, %d", old, e)
	}
	if old, e := x.Put(api.Message{Topic: "a", QoS: 3}); old || e != api.ErrRettrieQoS {
		t.Errorf("P9.2: Put of quality 3: %t, %d", old, e)
	}
	m := model{}
	mustPut(t, x, m, api.Message{Topic: "a", Payload: []byte("1")})
	if old, e := x.Put(api.Message{Topic: "a", Payload: []byte("2")}); !old || e != api.OK {
		t.Errorf("P9.2: Put of a again: %t, %d", old, e)
	}
	if got, ok := x.Get("a"); !ok || string(got.Payload) != "2" {
		t.Errorf("P9.3: Get(a): %s, %t", line(got), ok)
	}
}

// TestPutKeepsAll: each field of a message, whatever the one ahead of it was.
func TestPutKeepsAll(t *testing.T) {
	topics := []string{"a", "a/b", "/", "$", "$a/b", "a//b", strings.Repeat("a", maxText), strings.Repeat("/", maxText), "\U0010FFFF/\u0001"}
	x, m := rettrie.New(), model{}
	for _, s := range topics {
		for _, payload := range [][]byte{[]byte("1"), []byte("1"), {}, nil, {0}, []byte("22"), []byte(strings.Repeat("p", 1<<20))} {
			for qos := range 3 {
				for _, retain := range []bool{true, false} {
					mustPut(t, x, m, api.Message{Topic: s, Payload: payload, QoS: qos, Retain: retain})
					if got, ok := x.Get(s); !ok || line(got) != line(m[s]) {
						t.Fatalf("P9.3: Get(%.20q): %.50s, %t; want %.50s", s, line(got), ok, line(m[s]))
					}
				}
			}
		}
		mustPut(t, x, m, plain(s))
	}
	holdAll(t, x, m, topics, []string{"#", "+", "$/#", "$a/+", "/#"})
}

func TestPutRefuses(t *testing.T) {
	r := rand.New(rand.NewSource(91))
	topics := fewTopics(2)
	x, m := laid(t, r, topics, 20)
	none := []int{-1, 3, 0x80, 1 << 40, -1 << 63}
	for _, s := range noTopic() {
		for _, qos := range append(none, 0, 1, 2) {
			if old, e := x.Put(api.Message{Topic: s, Payload: []byte("new"), QoS: qos, Retain: true}); old || e != api.ErrRettrieTopic {
				t.Errorf("P9.2: Put of %.20q at %d: %t, %d", s, qos, old, e)
			}
		}
	}
	for _, s := range append(topics, "c/d/e", "a/b/c/d") {
		for _, qos := range none {
			if old, e := x.Put(api.Message{Topic: s, Payload: []byte("new"), QoS: qos}); old || e != api.ErrRettrieQoS {
				t.Errorf("P9.2: Put of %.20q at %d: %t, %d", s, qos, old, e)
			}
		}
	}
	holdAll(t, x, m, append(topics, "c/d/e", "a/b/c/d"), fewFilters(2))
}

// TestWhatIsNotThere: Get and Drop of what never was, of what is only a beginning, of what goes on behind a topic, and of what was dropped.
func TestWhatIsNotThere(t *testing.T) {
	x, m := rettrie.New(), model{}
	for _, s := range []string{"a/b/c", "a/b/d", "/a", "/b", "$a"} {
		mustPut(t, x, m, plain(s))
	}
	others := append(noTopic(), "a", "a/b", "a/b/c/d", "a/b/c/", "a/b/e", "a/+/c", "a/#", "/", "//a", "a/b/", "b", "$", "$a/b", "$a/")
	for _, s := range others {
		mustDrop(t, x, m, s)
	}
	holdAll(t, x, m, append(others, "a/b/c", "a/b/d", "/a", "/b", "$a"), nil)
	for _, s := range []string{"a/b/c", "/b", "$a", "a/b/d", "/a"} {
		mustDrop(t, x, m, s)
		mustDrop(t, x, m, s)
		holdAll(t, x, m, append(others, "a/b/c", "a/b/d", "/a", "/b", "$a"), nil)
	}
	mustPut(t, x, m, plain("a/b"))
	holdAll(t, x, m, append(others, "a/b/c", "a/b/d"), nil)
}

// TestPayloadWrittenOver: P9.2: the payload is kept as it was, its spare room isn't touched, and what was handed out is the caller's.
func TestPayloadWrittenOver(t *testing.T) {
	room := []byte("payload and room")
	x := rettrie.New()
	x.Put(api.Message{Topic: "a", Payload: room[:7], QoS: 2})
	x.Put(api.Message{Topic: "a/b", Payload: room[:0]})
	c := x.Copy()
	if string(room) != "payload and room" {
		t.Errorf("P9.2: Put changes what is handed in: %q", room)
	}
	copy(room, "PAYLOAD AND ROOM")
	for range 3 {
		for _, y := range []*rettrie.Trie{x, c} {
			m, ok := y.Get("a")
			if !ok || string(m.Payload) != "payload" {
				t.Fatalf("P9.2: the payload is %q", m.Payload)
			}
			overwrite(m.Payload)
			for m := range y.Find("#") {
				overwrite(m.Payload)
			}
			for m := range y.All() {
				overwrite(m.Payload)
			}
		}
	}
}

// overwrite writes over some bytes and over their spare room.
func overwrite(b []byte) {
	b = b[:cap(b)]
	for i := range b {
		b[i] = '!'
	}
}

// TestAnswersApart: payloads of one walk, and of several, share no memory.
func TestAnswersApart(t *testing.T) {
	x, m := rettrie.New(), model{}
	for _, s := range fewTopics(3) {
		mustPut(t, x, m, plain(s))
	}
	var kept []api.Message
	for _, walk := range []string{"#", "#", "+/#", "a/#", "a"} {
		for one := range x.Find(walk) {
			kept = append(kept, one)
		}
		for one := range x.All() {
			kept = append(kept, one)
		}
		one, _ := x.Get("a")
		kept = append(kept, one)
	}
	for i, one := range kept {
		if line(one) != line(m[one.Topic]) {
			t.Fatalf("P9.4: the payload of answer %d has changed: %s", i, line(one))
		}
		overwrite(one.Payload)
	}
	holdAll(t, x, m, fewTopics(3), nil)
}

func TestTriesApart(t *testing.T) {
	x, y := rettrie.New(), rettrie.New()
	x.Put(plain("a/b"))
	if _, ok := y.Get("a/b"); ok || y.Len() != 0 || y.Nodes() != 1 || given(y.Find("#")) != "" {
		t.Error("P9.1: what is put in one trie shows in another one")
	}
}
