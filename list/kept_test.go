package list_test

import (
	"math/rand"
	"runtime"
	"slices"
	"strings"
	"testing"

	"crier/api"
	"crier/list"
)

func TestKeptExample(t *testing.T) {
	k := list.NewKept()
	for _, s := range []string{"a/b", "a", "$a"} {
		if old, e := k.Put(plain(s)); old || e != api.OK {
			t.Errorf("P10.3: Put of %q: %t, %d", s, old, e)
		}
	}
	if got := topicsOf(k.Find("#")); !slices.Equal(got, []string{"a", "a/b"}) {
		t.Errorf("P10.3: Find(#): %q", got)
	}
	if got := topicsOf(k.All()); !slices.Equal(got, []string{"$a", "a", "a/b"}) {
		t.Errorf("P10.3: All: %q", got)
	}
}

func TestKeptOfNothing(t *testing.T) {
	o := newStore()
	topics, filters := append(noTopic(), fewTopics(2)...), append(noFilter(), fewFilters(2)...)
	nothing := func() {
		t.Helper()
		o.hold(t, topics, filters)
		if o.k.All() == nil || o.k.Find("#") == nil || o.k.Find("") == nil {
			t.Error("P10.3: an iterator is nil")
		}
		for _, s := range []string{"", "a", "/", "#", "a#"} {
			o.drop(t, s)
		}
	}
	nothing()
	o.put(t, plain("a"))
	o.drop(t, "a")
	nothing()
}

// TestKeptPut: each field of a message, whatever the one ahead of it was: with another payload, with the same one, without any bytes, with the retain mark or not.
func TestKeptPut(t *testing.T) {
	topics := []string{"a", "a/b", "/", "$", "$a/b", "a//b", strings.Repeat("a", maxText), strings.Repeat("/", maxText), "\U0010FFFF/\u0001"}
	o := newStore()
	for _, s := range topics {
		for _, payload := range [][]byte{[]byte("1"), []byte("1"), {}, nil, {0}, []byte("22"), []byte(strings.Repeat("p", 1<<20))} {
			for qos := range 3 {
				for _, retain := range []bool{true, false} {
					want := api.Message{Topic: s, Payload: payload, QoS: qos, Retain: retain}
					o.put(t, want)
					if got, ok := o.k.Get(s); !ok || got.Topic != s || string(got.Payload) != string(payload) || got.QoS != qos || got.Retain != retain {
						t.Fatalf("P10.3: Get(%.20q): %.60s, %t; want %.60s", s, line(got), ok, line(want))
					}
				}
			}
		}
		o.put(t, plain(s))
	}
	o.hold(t, topics, []string{"#", "+", "$/#", "$a/+", "/#"})
}

// TestKeptPutRefuses: the topic's error is the first; a refused Put changes nothing, of what is there neither.
func TestKeptPutRefuses(t *testing.T) {
	topics := fewTopics(2)
	o := stored(t, rand.New(rand.NewSource(110)), topics, 20)
	for _, s := range noTopic() {
		for _, qos := range append(noQoS(), 0, 1, 2) {
			o.refuse(t, api.Message{Topic: s, Payload: []byte("new"), QoS: qos, Retain: true}, api.ErrRettrieTopic)
			o.refuse(t, api.Message{Topic: s, QoS: qos}, api.ErrRettrieTopic)
		}
	}
	topics = append(topics, "c/d/e", strings.Repeat("a", maxText))
	for _, s := range topics {
		for _, qos := range noQoS() {
			o.refuse(t, api.Message{Topic: s, Payload: []byte("new"), QoS: qos}, api.ErrRettrieQoS)
		}
	}
	o.hold(t, append(noTopic(), topics...), fewFilters(2))
}

// TestKeptDropAndGet: of what is there, of what was dropped, of what never was.
func TestKeptDropAndGet(t *testing.T) {
	topics := []string{"a/b/c", "a/b/d", "/a", "/b", "$a"}
	others := append(noTopic(), "a", "a/b", "a/b/c/d", "a/b/c/", "a/b/e", "a/+/c", "/", "//a", "b", "$", "$a/b", "A/b/c")
	for _, order := range eachOrder(topics) {
		o := newStore()
		for _, s := range topics {
			o.put(t, plain(s))
		}
		for _, s := range others {
			o.drop(t, s)
		}
		o.hold(t, others, nil)
		for _, s := range order {
			o.drop(t, s)
			o.drop(t, s)
			o.hold(t, topics, []string{"#", "a/#"})
		}
		o.put(t, plain(order[0]))
		o.hold(t, topics, []string{"#"})
	}
}

// overwrite writes over some bytes and over their spare room.
func overwrite(b []byte) {
	b = b[:cap(b)]
	for i := range b {
		b[i] = '!'
	}
}

// TestKeptPayloadWrittenOver: the payload is kept as it was, its spare room isn't touched, and what was handed out is the caller's.
func TestKeptPayloadWrittenOver(t *testing.T) {
	room := []byte("payload and room")
	k := list.NewKept()
	k.Put(api.Message{Topic: "a", Payload: []byte("first")})
	k.Put(api.Message{Topic: "a", Payload: room[:7], QoS: 2})
	k.Put(api.Message{Topic: "a/b", Payload: room[:0]})
	first, _ := k.Get("a")
	if string(room) != "payload and room" {
		t.Errorf("P10.3: Put changes what is handed in: %q", room)
	}
	copy(room, "PAYLOAD AND ROOM")
	for range 3 {
		m, ok := k.Get("a")
		if !ok || string(m.Payload) != "payload" {
			t.Fatalf("P10.3: the payload is %q", m.Payload)
		}
		overwrite(m.Payload)
		for _, walk := range []func(func(api.Message) bool){k.Find("#"), k.Find("a"), k.All()} {
			for m := range walk {
				overwrite(m.Payload)
			}
		}
	}
	k.Put(api.Message{Topic: "a", Payload: []byte("another")})
	k.Drop("a")
	if string(first.Payload) != "payload" || string(room) != "PAYLOAD AND ROOM" {
		t.Errorf("P10.3: another Put changes an answer: %q, or what was handed in: %q", first.Payload, room)
	}
}

// TestKeptAnswersApart: payloads of one walk, and of several, share no memory.
func TestKeptAnswersApart(t *testing.T) {
	o := newStore()
	for _, s := range fewTopics(2) {
		o.put(t, plain(s))
	}
	var kept []api.Message
	for _, f := range []string{"#", "#", "+/#", "a/#", "a"} {
		kept = slices.AppendSeq(kept, o.k.Find(f))
		kept = slices.AppendSeq(kept, o.k.All())
		one, _ := o.k.Get("a")
		kept = append(kept, one)
	}
	for i, one := range kept {
		if line(one) != line(o.m[one.Topic]) {
			t.Fatalf("P10.3: the payload of answer %d has changed: %s", i, line(one))
		}
		overwrite(one.Payload)
	}
	o.hold(t, fewTopics(2), []string{"#"})
}

func TestKeptApart(t *testing.T) {
	a, b := list.NewKept(), list.NewKept()
	a.Put(plain("a/b"))
	if _, ok := b.Get("a/b"); ok || b.Len() != 0 || lines(b.Find("#")) != "" || lines(b.All()) != "" || b.Drop("a/b") {
		t.Error("P10.3: what is put in one Kept shows in another one")
	}
}

// held tells how many bytes are in use.
func held() int {
	runtime.GC()
	var m runtime.MemStats
	runtime.ReadMemStats(&m)
	return int(m.HeapAlloc)
}

// TestNothingElseIsKept: neither what was dropped or replaced, nor the long texts of which what is kept is a piece.
func TestNothingElseIsKept(t *testing.T) {
	const big, many, stay = 1 << 20, 61, 41
	before := held()
	k, s := list.NewKept(), list.NewSubs()
	for i := range many {
		text := strings.Repeat(string(rune('A'+i)), big)
		k.Put(api.Message{Topic: text[:3], Payload: []byte(text)})
		s.Put("#", text, 1)
		s.Put(text[:5], text[:6], 1)
		s.Put(text[:5], "x", 1)
	}
	for i := range many {
		text := strings.Repeat(string(rune('A'+i)), big)
		if i < stay {
			k.Put(api.Message{Topic: text[:3], Payload: []byte(text)[:4]})
			s.Put("#", text[:4], 1)
		} else {
			k.Drop(text[:3])
		}
		s.Drop("#", text)
	}
	if got := held() - before; got > 8*big {
		t.Errorf("P10.5: %d bytes are held", got)
	}
	if k.Len() != stay || s.Len() != many+1 || len(s.Of("#")) != stay {
		t.Errorf("P10.5: Len: %d, %d", k.Len(), s.Len())
	}
	runtime.KeepAlive(k)
	runtime.KeepAlive(s)
}

// TestNoRoomIsKept: of many things of which few are left.
func TestNoRoomIsKept(t *testing.T) {
	const many, lists, left = 1000, 60, 3
	var all []*list.Kept
	names := make([]string, many)
	for i := range names {
		names[i] = "a/" + strings.Repeat("b", i)
	}
	before := held()
	for range lists {
		k := list.NewKept()
		for _, s := range names {
			k.Put(api.Message{Topic: s})
		}
		for _, s := range names[left:] {
			k.Drop(s)
		}
		all = append(all, k)
	}
	if got := held() - before; got > lists*many*10 {
		t.Errorf("P10.5: %d bytes are held by %d messages", got, lists*left)
	}
	runtime.KeepAlive(all)
}
