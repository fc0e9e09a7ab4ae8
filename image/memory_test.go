package image_test

import (
	"bytes"
	"math/rand"
	"runtime"
	"slices"
	"strings"
	"testing"

	"crier/api"
	"crier/image"
)

// overwrite writes over a list, and over its spare room.
func overwrite[T any](l []T, with T) {
	l = l[:cap(l)]
	for i := range l {
		l[i] = with
	}
}

func spoilMessages(l []api.Message) {
	for _, m := range l {
		overwrite(m.Payload, '!')
	}
	overwrite(l, api.Message{Topic: "spoilt", QoS: 9})
}

// spoil writes over all of an image, list by list, and over all spare room.
func spoil(m api.Image) {
	for _, s := range m.Sessions {
		overwrite(s.Subs, api.Ask{Filter: "spoilt", QoS: 9})
		for _, f := range s.Window.Flight {
			overwrite(f.Msg.Payload, '!')
		}
		overwrite(s.Window.Flight, api.Flight{ID: -1})
		spoilMessages(s.Window.Queue)
		overwrite(s.Inbox, -1)
	}
	overwrite(m.Sessions, api.Session{Client: "spoilt"})
	spoilMessages(m.Retained)
}

// roomy tells the same image with spare room behind all lists, and all of it: the room is shown, too.
func roomy(m api.Image) (api.Image, func() string) {
	m = copied(m)
	var seen []func() string
	grow(&m.Sessions, &seen, func(l []api.Session) string { return drawn(api.Image{Sessions: l}) })
	for i := range m.Sessions {
		s := &m.Sessions[i]
		grow(&s.Subs, &seen, func(l []api.Ask) string { return drawn(api.Image{Sessions: []api.Session{{Subs: l}}}) })
		grow(&s.Inbox, &seen, func(l []int) string { return drawn(api.Image{Sessions: []api.Session{{Inbox: l}}}) })
		grow(&s.Window.Flight, &seen, func(l []api.Flight) string {
			return drawn(api.Image{Sessions: []api.Session{{Window: api.Window{Flight: l}}}})
		})
		for j := range s.Window.Flight {
			grow(&s.Window.Flight[j].Msg.Payload, &seen, func(l []byte) string { return string(l) })
		}
		growMessages(&s.Window.Queue, &seen)
	}
	growMessages(&m.Retained, &seen)
	return m, func() string {
		var b strings.Builder
		for _, tell := range seen {
			b.WriteString(tell())
		}
		return b.String()
	}
}

func growMessages(l *[]api.Message, seen *[]func() string) {
	grow(l, seen, func(l []api.Message) string { return drawn(api.Image{Retained: l}) })
	for i := range *l {
		grow(&(*l)[i].Payload, seen, func(l []byte) string { return string(l) })
	}
}

func grow[T any](l *[]T, seen *[]func() string, tell func(l []T) string) {
	*l = slices.Grow(*l, 3)
	whole := (*l)[:cap(*l)]
	*seen = append(*seen, func() string { return tell(whole) })
}

// TestImageHandedIn: no call changes an image that is handed in, or the room behind its lists; nor does Encode's answer hang on it.
func TestImageHandedIn(t *testing.T) {
	r := rand.New(rand.NewSource(158))
	for i := range 300 {
		made := someImage(r)
		if i == 0 {
			made = full()
		}
		m, whole := roomy(made)
		before := whole()
		image.Check(m)
		b, _ := image.Encode(m)
		image.Same(m, made)
		image.Same(made, m)
		want := string(laid(made).b)
		overwrite(slices.Clone(b), 0)
		if whole() != before {
			t.Fatal("DOC 3: a call changes what it is handed")
		}
		spoil(m)
		if string(b) != want {
			t.Fatal("DOC 3: Encode answers what it is handed")
		}
		m, whole = roomy(made)
		before = whole()
		b, _ = image.Encode(m)
		overwrite(b, '!')
		if whole() != before {
			t.Fatal("DOC 3: Encode answers what it is handed")
		}
		if b, _ = image.Encode(m); string(b) != want {
			t.Fatal("DOC 3: an earlier answer of Encode shows in a later one")
		}
	}
}

// TestBytesHandedIn: Decode neither changes nor keeps its bytes; its answers have nothing in common, nor have the lists of one.
func TestBytesHandedIn(t *testing.T) {
	r := rand.New(rand.NewSource(159))
	for i := range 300 {
		made := someImage(r)
		if i == 0 {
			made = full()
		}
		b := laid(made).b
		room := append(append(make([]byte, 0, len(b)+9), b...), "behind..."...)
		m, err := image.Decode(room[:len(b)])
		other, _ := image.Decode(room[:len(b)])
		if err != nil || string(room) != string(b)+"behind..." {
			t.Fatalf("DOC 3: Decode changes what it is handed: %v", err)
		}
		overwrite(room, '!')
		if drawn(m) != drawn(made) {
			t.Fatal("DOC 3: Decode keeps what it is handed")
		}
		spoil(other)
		if drawn(m) != drawn(made) {
			t.Fatal("DOC 3: two answers of Decode share memory")
		}
		if bytes.Count(room, []byte("!")) != len(room) {
			t.Fatal("DOC 3: Decode answers what it is handed")
		}
		apart(t, m)
	}
}

// apart holds that all payloads of an image, and its lists of one kind, with their spare room, lie apart.
func apart(t *testing.T, m api.Image) {
	t.Helper()
	var payloads [][]byte
	var subs [][]api.Ask
	var inboxes [][]int
	queues := [][]api.Message{m.Retained}
	for _, s := range m.Sessions {
		subs, inboxes, queues = append(subs, s.Subs), append(inboxes, s.Inbox), append(queues, s.Window.Queue)
		for _, f := range s.Window.Flight {
			payloads = append(payloads, f.Msg.Payload)
		}
	}
	for _, l := range queues {
		for _, x := range l {
			payloads = append(payloads, x.Payload)
		}
	}
	for i, l := range payloads {
		overwrite(l, byte(i))
	}
	for i, l := range payloads {
		if l = l[:cap(l)]; bytes.Count(l, []byte{byte(i)}) != len(l) {
			t.Fatal("DOC 3: two payloads of one answer share memory")
		}
	}
	apartLists(t, subs, func(i int) api.Ask { return api.Ask{QoS: i} })
	apartLists(t, inboxes, func(i int) int { return i })
}

func apartLists[T comparable](t *testing.T, lists [][]T, mark func(i int) T) {
	t.Helper()
	for i, l := range lists {
		overwrite(l, mark(i))
	}
	for i, l := range lists {
		for _, x := range l[:cap(l)] {
			if x != mark(i) {
				t.Fatal("DOC 3: two lists of one answer share memory")
			}
		}
	}
}

// rough: by how many bytes what held tells may be wrong: some garbage of others is gone only at a later reading.
const rough = 1 << 20

// held tells how many bytes the program has, garbage aside.
func held() int {
	var s runtime.MemStats
	runtime.GC()
	runtime.GC()
	runtime.ReadMemStats(&s)
	return int(s.HeapAlloc)
}

// TestPiecesKeepNothing: neither a piece of an answer nor an error keeps the bytes that were read.
func TestPiecesKeepNothing(t *testing.T) {
	great := laid(api.Image{
		Sessions: []api.Session{{Client: "c", Subs: []api.Ask{{Filter: "f"}}, Inbox: []int{1}}},
		Retained: []api.Message{{Topic: "t", Payload: make([]byte, 16<<20), Retain: true}},
	}).b
	before := held()
	m, err := image.Decode(great)
	if err != nil {
		t.Fatal(err)
	}
	s, topic := m.Sessions[0], m.Retained[0].Topic
	_, fault := image.Decode(great[:len(great)-1])
	_, can := image.Decode(bytes.Replace(great, []byte("f"), []byte("+"), 1))
	m = api.Image{}
	if n := held() - before; n > rough || fault == nil {
		t.Errorf("LANGUAGE 8: %d bytes are kept of an image that is gone", n)
	}
	runtime.KeepAlive(great)
	runtime.KeepAlive(fault)
	runtime.KeepAlive(can)
	runtime.KeepAlive(s)
	runtime.KeepAlive(topic)
	runtime.KeepAlive(m)
}

// TestNoRoomForCounts: a count, or a length, takes no room for what isn't there.
func TestNoRoomForCounts(t *testing.T) {
	var a, b runtime.MemStats
	for _, s := range []string{
		"cri1\x00\x00\x00\x00\xFF\xFF\xFF\x7F",
		"cri1\x00\x00\x00\x00\x00\xFF\xFF\xFF\x7F",
		"cri1\x00\x00\x00\x00\x01\x00\x01c\xFF\xFF\xFF\x7F",
		"cri1\x00\x00\x00\x00\x01\x00\x01c\x00\x00\x00\x00\x00\xFF\xFF\xFF\x7F",
		"cri1\x00\x00\x00\x00\x00\x01\x00\x01t\x00\xFF\xFF\xFF\x7F",
	} {
		runtime.ReadMemStats(&a)
		wantDecode(t, "a count alone", []byte(s), len(s), errForm)
		runtime.ReadMemStats(&b)
		if n := b.TotalAlloc - a.TotalAlloc; n > rough {
			t.Errorf("P15.4: %q: %d bytes were taken", s, n)
		}
	}
}
