package image_test

import (
	"bytes"
	"fmt"
	"math"
	"slices"
	"strings"
	"testing"

	"crier/api"
	"crier/image"
)

// wantCheck holds Check, and Encode's error, against a place and an error.
func wantCheck(t *testing.T, what string, m api.Image, at int, e api.Errno) {
	t.Helper()
	if gotAt, got := image.Check(m); gotAt != at || got != e {
		t.Errorf("P15.1: %s: %d, %d; want %d, %d", what, gotAt, got, at, e)
	}
	if b, got := image.Encode(m); got != e || (len(b) == 0) != (e != 0) {
		t.Errorf("P15.3: %s: %d bytes, %d; want %d", what, len(b), got, e)
	}
}

// wantDecode holds Decode of what is no image's bytes against a fault.
func wantDecode(t *testing.T, what string, b []byte, at int, e api.Errno) {
	t.Helper()
	m, err := image.Decode(b)
	if got := faultOf(t, err); got != (wrong{at, e}) {
		t.Errorf("P15.4: %s: %v; want %v", what, got, wrong{at, e})
	}
	if drawn(m) != drawn(api.Image{}) {
		t.Errorf("DOC 4: %s: an image beside the error: %s", what, drawn(m))
	}
}

func TestExamples(t *testing.T) {
	empty := []byte{0x63, 0x72, 0x69, 0x31, 0, 0, 0, 0, 0, 0}
	one := api.Image{Autos: 258, Sessions: []api.Session{{Client: "c", Subs: []api.Ask{{Filter: "a/#", QoS: 1}}}}}
	if b, e := image.Encode(api.Image{}); !bytes.Equal(b, empty) || e != 0 {
		t.Errorf("P15.2: the empty image: % X, %d", b, e)
	}
	if b, e := image.Encode(one); fmt.Sprintf("% X", b) != "63 72 69 31 00 00 01 02 01 00 01 63 01 00 03 61 2F 23 01 00 00 00 00 00 00" || e != 0 {
		t.Errorf("P15.2: one client: % X, %d", b, e)
	}
	wantDecode(t, "a byte behind", append(empty[:10:10], 0), 10, errForm)
	wantDecode(t, "9 bytes", empty[:9], 9, errForm)
	wantDecode(t, "80 00", append(empty[:9:9], 0x80, 0), 9, errForm)
	wantCheck(t, "one client twice", api.Image{Sessions: []api.Session{{Client: "c"}, {Client: "c"}}}, 1, errClient)
	wantCheck(t, "no payload", api.Image{Retained: []api.Message{{Topic: "a", Retain: true}}}, 0, errRetained)
}

// spoiler: a way to spoil full's image, and what Check says of it then.
type spoiler struct {
	name  string
	spoil func(m *api.Image)
	at    int
	e     api.Errno
}

func spoilers() []spoiler {
	var l []spoiler
	add := func(at int, e api.Errno, name string, spoil func(m *api.Image)) {
		l = append(l, spoiler{name, spoil, at, e})
	}
	for _, n := range []int{-1, math.MinInt, maxAutos + 1, 1 << 32, 1<<32 + 1, math.MaxInt} {
		add(0, errMany, fmt.Sprint("Autos ", n), func(m *api.Image) { m.Autos = n })
	}
	for i := range 3 {
		for _, s := range append(noTexts(), "") {
			add(i, errClient, fmt.Sprintf("client %d %.9q", i, s), func(m *api.Image) { m.Sessions[i].Client = s })
		}
	}
	for i, name := range []string{1: "c", 2: "ca"} {
		if i > 0 {
			add(i, errClient, "a client twice", func(m *api.Image) { m.Sessions[i].Client = name })
			add(i, errClient, "a client below", func(m *api.Image) { m.Sessions[i].Client = "b" })
		}
	}
	add(1, errClient, "clients by topic's order", func(m *api.Image) { m.Sessions[0].Client, m.Sessions[1].Client = "c/", "c." })
	for i := range 3 {
		for _, s := range noFilters() {
			add(0, errSubs, fmt.Sprintf("filter %d %.9q", i, s), func(m *api.Image) { m.Sessions[0].Subs[i].Filter = s })
		}
		for _, n := range noQoS() {
			add(0, errSubs, fmt.Sprint("a filter's quality ", n), func(m *api.Image) { m.Sessions[0].Subs[i].QoS = n })
		}
	}
	add(1, errSubs, "a filter's quality", func(m *api.Image) { m.Sessions[1].Subs[0].QoS = 3 })
	add(0, errSubs, "a filter twice", func(m *api.Image) { m.Sessions[0].Subs[1].Filter = "#" })
	add(0, errSubs, "a filter twice, another quality", func(m *api.Image) { m.Sessions[0].Subs[2].Filter = "a/+" })
	add(0, errSubs, "filters byte by byte", func(m *api.Image) { m.Sessions[0].Subs[1].Filter, m.Sessions[0].Subs[2].Filter = "a.b", "a/+" })
	return append(append(l, windowSpoilers()...), laterSpoilers()...)
}

func windowSpoilers() []spoiler {
	var l []spoiler
	add := func(at int, name string, spoil func(w *api.Window)) {
		l = append(l, spoiler{name, func(m *api.Image) { spoil(&m.Sessions[at].Window) }, at, errWindow})
	}
	for _, n := range []int{-1, 65536, 1 << 32, math.MinInt, math.MaxInt} {
		add(0, fmt.Sprint("Last ", n), func(w *api.Window) { w.Last = n })
		add(2, fmt.Sprint("Last ", n), func(w *api.Window) { w.Last = n })
	}
	for i := range 3 {
		for _, n := range noID() {
			add(0, fmt.Sprintf("flight %d: ID %d", i, n), func(w *api.Window) { w.Flight[i].ID = n })
		}
	}
	add(0, "a number twice", func(w *api.Window) { w.Flight[1].ID = 7 })
	add(0, "a number twice, apart", func(w *api.Window) { w.Flight[2].ID = 7 })
	add(0, "released with a topic", func(w *api.Window) { w.Flight[0].Msg.Topic = "t" })
	add(0, "released with a payload", func(w *api.Window) { w.Flight[0].Msg.Payload = []byte{0} })
	add(0, "released with a quality", func(w *api.Window) { w.Flight[0].Msg.QoS = 2 })
	add(0, "released with a mark", func(w *api.Window) { w.Flight[0].Msg.Retain = true })
	for _, s := range noTopics() {
		add(0, fmt.Sprintf("flight's topic %.9q", s), func(w *api.Window) { w.Flight[1].Msg.Topic = s })
		add(0, fmt.Sprintf("last flight's topic %.9q", s), func(w *api.Window) { w.Flight[2].Msg.Topic = s })
		add(0, fmt.Sprintf("topic %.9q waits", s), func(w *api.Window) { w.Queue[0].Topic = s })
		add(0, fmt.Sprintf("topic %.9q waits at last", s), func(w *api.Window) { w.Queue[1].Topic = s })
		add(1, fmt.Sprintf("topic %.9q waits", s), func(w *api.Window) { w.Queue[0].Topic = s })
	}
	for _, n := range append(noQoS(), 0) {
		add(0, fmt.Sprint("flight's quality ", n), func(w *api.Window) { w.Flight[2].Msg.QoS = n })
		add(0, fmt.Sprint("waits at quality ", n), func(w *api.Window) { w.Queue[1].QoS = n })
	}
	return l
}

func laterSpoilers() []spoiler {
	var l []spoiler
	add := func(at int, e api.Errno, name string, spoil func(m *api.Image)) {
		l = append(l, spoiler{name, spoil, at, e})
	}
	for i := range 3 {
		for _, n := range noID() {
			add(0, errInbox, fmt.Sprintf("inbox %d: %d", i, n), func(m *api.Image) { m.Sessions[0].Inbox[i] = n })
		}
	}
	add(1, errInbox, "inbox", func(m *api.Image) { m.Sessions[1].Inbox[0] = 0 })
	add(0, errInbox, "a number that came in twice", func(m *api.Image) { m.Sessions[0].Inbox[1] = 1 })
	add(0, errInbox, "numbers that fall", func(m *api.Image) { m.Sessions[0].Inbox[0] = 301 })
	add(2, errInbox, "numbers that fall", func(m *api.Image) { m.Sessions[2].Inbox = []int{2, 3, 1} })
	for i := range 3 {
		for _, s := range noTopics() {
			add(3+i, errRetained, fmt.Sprintf("retained %d: topic %.9q", i, s), func(m *api.Image) { m.Retained[i].Topic = s })
		}
		for _, n := range noQoS() {
			add(3+i, errRetained, fmt.Sprintf("retained %d: quality %d", i, n), func(m *api.Image) { m.Retained[i].QoS = n })
		}
		add(3+i, errRetained, "no payload", func(m *api.Image) { m.Retained[i].Payload = nil })
		add(3+i, errRetained, "an empty payload", func(m *api.Image) { m.Retained[i].Payload = []byte{} })
		add(3+i, errRetained, "no mark", func(m *api.Image) { m.Retained[i].Retain = false })
	}
	add(4, errRetained, "a topic twice", func(m *api.Image) { m.Retained[1].Topic = "a/b" })
	add(5, errRetained, "a topic twice", func(m *api.Image) { m.Retained[2].Topic = "a.b" })
	add(4, errRetained, "topics byte by byte", func(m *api.Image) { m.Retained[0].Topic, m.Retained[1].Topic = "a.b", "a/b" })
	return l
}

// TestCheck: each thing that can't be, alone.
func TestCheck(t *testing.T) {
	wantCheck(t, "an image that can be", full(), 0, 0)
	wantCheck(t, "the empty image", api.Image{}, 0, 0)
	for _, s := range spoilers() {
		m := full()
		s.spoil(&m)
		wantCheck(t, s.name, m, s.at, s.e)
	}
}

// TestFirst: of two things that can't be the first in P15.1's order is told.
func TestFirst(t *testing.T) {
	l := spoilers()
	for i, a := range l {
		for j := i % 2; j < len(l); j += 2 {
			b := l[j]
			m := full()
			a.spoil(&m)
			b.spoil(&m)
			at, e := image.Check(m)
			wantAt, want := checked(m)
			if at != wantAt || e != want {
				t.Fatalf("P15.1: %s and %s: %d, %d; want %d, %d", a.name, b.name, at, e, wantAt, want)
			}
		}
	}
}

// TestManyFirst: too many is told ahead of all else, of a session's filters behind its client.
func TestManyFirst(t *testing.T) {
	bad := api.Image{Sessions: make([]api.Session, maxSessions+1), Retained: []api.Message{{}}}
	wantCheck(t, "more than MaxSessions, none can be", bad, 0, errMany)
	bad.Sessions = bad.Sessions[:maxSessions]
	wantCheck(t, "MaxSessions that can't be", bad, 0, errClient)
	bad = api.Image{Sessions: []api.Session{{}}, Retained: make([]api.Message, maxRetained+1)}
	wantCheck(t, "more than MaxRetained, none can be", bad, 0, errMany)
	bad.Retained = bad.Retained[:maxRetained]
	wantCheck(t, "a session that can't be, MaxRetained that can't", bad, 0, errClient)
	bad.Sessions = nil
	wantCheck(t, "MaxRetained that can't be", bad, 0, errRetained)

	subs := make([]api.Ask, maxSubs+1)
	two := api.Image{Sessions: []api.Session{{Client: "a"}, {Client: "b", Subs: subs, Inbox: []int{0}}}}
	wantCheck(t, "more than MaxSubs, none can be", two, 1, errMany)
	two.Sessions[1].Client = "a"
	wantCheck(t, "more than MaxSubs of one that has a session", two, 1, errClient)
	two.Sessions[1].Client, two.Sessions[1].Subs = "b", subs[:maxSubs]
	wantCheck(t, "MaxSubs that can't be", two, 1, errSubs)
	two.Sessions[0].Inbox = []int{0}
	two.Sessions[1].Subs = subs
	wantCheck(t, "a session that can't be ahead of one with too many", two, 0, errInbox)
}

// name tells the texts of numbers, rising.
func name(i int) string { return fmt.Sprintf("n%07d", i) }

// TestGreatest: as much as there may be is taken, and comes back; one more isn't.
func TestGreatest(t *testing.T) {
	there := func(what string, m api.Image) {
		t.Helper()
		if at, e := image.Check(m); at != 0 || e != 0 {
			t.Fatalf("P15.1: %s: %d, %d", what, at, e)
		}
		b, _ := image.Encode(m)
		back, err := image.Decode(b)
		if err != nil || !image.Same(m, back) || !bytes.Equal(b, laid(m).b) {
			t.Errorf("P15.6: %s: %v", what, err)
		}
	}
	var m api.Image
	for i := range maxSessions {
		m.Sessions = append(m.Sessions, api.Session{Client: name(i)})
	}
	m.Autos = maxAutos
	there("MaxSessions", m)
	l := laid(m)
	m.Sessions = append(m.Sessions, api.Session{Client: name(maxSessions)})
	wantCheck(t, "one more than MaxSessions", m, 0, errMany)
	wantDecode(t, "one more than MaxSessions", laid(m).b, 4, errMany)
	l.b[4] = 0x80
	wantDecode(t, "one more than MaxAutos", l.b, 4, errMany)

	s := api.Session{Client: "c", Window: api.Window{Last: maxID}}
	for i := range maxSubs {
		s.Subs = append(s.Subs, api.Ask{Filter: name(i), QoS: i % 3})
		s.Window.Queue = append(s.Window.Queue, note("q", 1+i%2))
		if i > 0 {
			s.Window.Flight = append(s.Window.Flight, api.Flight{ID: i, Msg: note("f", 1)})
			s.Inbox = append(s.Inbox, i)
		}
	}
	there("the greatest session", api.Image{Sessions: []api.Session{s}})
	more := s
	more.Subs = append(s.Subs[:maxSubs:maxSubs], api.Ask{Filter: name(maxSubs)})
	wantCheck(t, "one more than MaxSubs", api.Image{Sessions: []api.Session{more}}, 0, errMany)
	wantDecode(t, "one more than MaxSubs", laid(api.Image{Sessions: []api.Session{more}}).b, 4, errMany)
	more = s
	more.Window.Queue = append(s.Window.Queue[:maxQueue:maxQueue], note("q", 1))
	wantCheck(t, "one more than MaxQueue", api.Image{Sessions: []api.Session{more}}, 0, errWindow)
	more = s
	more.Window.Flight = append(s.Window.Flight[:maxWindow:maxWindow], api.Flight{ID: 9, Released: true})
	wantCheck(t, "one more than MaxWindow", api.Image{Sessions: []api.Session{more}}, 0, errWindow)
}

func TestGreatestRetained(t *testing.T) {
	var m api.Image
	one := []byte{'x'}
	for i := range maxRetained {
		m.Retained = append(m.Retained, api.Message{Topic: name(i), Payload: one, QoS: i % 3, Retain: true})
	}
	b, e := image.Encode(m)
	if back, err := image.Decode(b); e != 0 || err != nil || !image.Same(m, back) {
		t.Errorf("P15.6: MaxRetained: %d, %v", e, err)
	}
	m.Retained = append(m.Retained, api.Message{Topic: name(maxRetained), Payload: one, Retain: true})
	wantCheck(t, "one more than MaxRetained", m, 0, errMany)
	const count = 4 + 4 + 1 // ahead of it: the first bytes, Autos, no sessions
	b = slices.Concat(b[:count], groups(maxRetained+1), b[count+len(groups(maxRetained)):], []byte("\x00\x08"+name(maxRetained)+"\x00\x01x"))
	wantDecode(t, "one more than MaxRetained", b, 4, errMany)
}

// TestGreatestMessages: a message that just fits a packet can be, a byte more can't.
func TestGreatestMessages(t *testing.T) {
	room := make([]byte, maxLength)
	fits := maxLength - 2 - len("t")
	for qos, n := range []int{fits, fits - 2, fits - 2} {
		m := api.Image{Retained: []api.Message{{Topic: "t", Payload: room[:n], QoS: qos, Retain: true}}}
		if at, e := image.Check(m); at != 0 || e != 0 {
			t.Errorf("P15.1: the greatest message at %d: %d, %d", qos, at, e)
		}
		m.Retained[0].Payload = room[:n+1]
		wantCheck(t, "a message too great", m, 0, errRetained)
	}
	for _, n := range []int{fits - 2, fits - 1} {
		x := api.Message{Topic: "t", Payload: room[:n], QoS: 2}
		want := errWindow
		if n == fits-2 {
			want = 0
		}
		if at, e := image.Check(api.Image{Sessions: []api.Session{{Client: "c", Window: api.Window{Queue: []api.Message{x}}}}}); at != 0 || e != want {
			t.Errorf("P15.1: %d bytes wait: %d, %d", n, at, e)
		}
		if want == 0 {
			continue
		}
		if at, e := image.Check(api.Image{Sessions: []api.Session{{Client: "c", Window: api.Window{Flight: []api.Flight{{ID: 1, Msg: x}}}}}}); at != 0 || e != want {
			t.Errorf("P15.1: %d bytes under way: %d, %d", n, at, e)
		}
	}
}

// TestLengths: payloads and texts at the borders of their forms.
func TestLengths(t *testing.T) {
	for _, n := range []int{1, 127, 128, 129, 255, 256, 16383, 16384, 65535, 65536, 2097151, 2097152} {
		m := api.Image{Retained: []api.Message{{Topic: "t", Payload: bytes.Repeat([]byte{0xFF}, n), Retain: true}}}
		if n <= maxText {
			s := strings.Repeat("z", n)
			m.Retained[0].Topic = s
			m.Sessions = []api.Session{{Client: s, Subs: []api.Ask{{Filter: s}}}}
		}
		b, e := image.Encode(m)
		if l := laid(m); e != 0 || !bytes.Equal(b, l.b) {
			t.Errorf("P15.2: %d bytes: %d", n, e)
		}
		if back, err := image.Decode(b); err != nil || drawn(back) != drawn(m) {
			t.Errorf("P15.6: %d bytes: %v", n, err)
		}
		if n < 70000 {
			wantDecode(t, "a byte is missing", b[:len(b)-1], len(b)-n, errForm)
		}
	}
}

// TestFields: each field of full's bytes, spoilt in each way that its kind has, and cut.
func TestFields(t *testing.T) {
	l := laid(full())
	for _, f := range l.fields {
		ahead, behind := l.b[:f.begin:f.begin], l.b[f.end:]
		for k := f.begin; k < f.end; k++ {
			wantDecode(t, "cut in a "+f.kind, l.b[:k], f.begin, errForm)
		}
		with := func(field ...byte) []byte { return slices.Concat(ahead, field, behind) }
		switch f.kind {
		case "length":
			n := l.b[f.begin]
			for _, long := range [][]byte{{n | 0x80, 0}, {n | 0x80, 0x80, 0}, {n | 0x80, 0x80, 0x80, 0}, {n | 0x80, 0x80, 0x80, 0x80}, {n | 0x80, 0x80, 0x80, 0x80, 0}} {
				wantDecode(t, "a length that isn't in its shortest form", with(long...), f.begin, errForm)
			}
		case "mark of a flight", "mark":
			for c := 2; c < 256; c++ {
				if c > 2 || f.kind == "mark" {
					wantDecode(t, "no mark", with(byte(c)), f.begin, errForm)
				}
			}
		case "text":
			for _, s := range noTexts() {
				if len(s) <= maxText {
					wantDecode(t, "no text", with(append([]byte{0, byte(len(s))}, s...)...), f.begin, errForm)
				}
			}
		case "quality":
			for c := range 256 {
				if _, err := image.Decode(with(byte(c))); c > 2 && faultOf(t, err) != parsedFault(with(byte(c))) || c > 2 && faultOf(t, err).at != 4 {
					t.Errorf("P15.4: the quality %d: %v", c, err)
				}
			}
		}
	}
	for k := range 4 {
		wantDecode(t, "cut in the first four bytes", l.b[:k], 0, errMark)
		for c := range 256 {
			b := bytes.Clone(l.b)
			if b[k] != byte(c) {
				b[k] = byte(c)
				wantDecode(t, "other first bytes", b, 0, errMark)
			}
		}
	}
	for _, behind := range []string{"\x00", "\xFF", "cri1\x00\x00\x00\x00\x00\x00", strings.Repeat("x", 9999)} {
		wantDecode(t, "something behind", slices.Concat(l.b, []byte(behind)), len(l.b), errForm)
	}
}

func parsedFault(b []byte) wrong {
	_, f := parsed(string(b))
	return f
}

// TestFormAhead: what isn't the one form is told ahead of what can't be, wherever the two stand.
func TestFormAhead(t *testing.T) {
	for _, s := range spoilers() {
		m := full()
		s.spoil(&m)
		l := laid(m)
		if f := parsedFault(l.b); f.e == errForm || f == (wrong{}) {
			continue // it has no bytes of its own
		}
		wantDecode(t, s.name, l.b, 4, s.e)
		wantDecode(t, s.name+", a byte behind", append(l.b[:len(l.b):len(l.b)], 7), len(l.b), errForm)
		last := l.fields[len(l.fields)-1]
		if last.end > last.begin {
			wantDecode(t, s.name+", cut", l.b[:len(l.b)-1], last.begin, errForm)
		}
	}
}

// TestCounts: a count is right, whatever follows: what is missing is told where it should begin, and no room is taken for it.
func TestCounts(t *testing.T) {
	const head = "cri1\x00\x00\x00\x00"
	for _, many := range []string{"\x01", "\x7F", "\x80\x01", "\xFF\xFF\xFF\x7F"} {
		for _, ahead := range []string{
			head,                                   // sessions
			head + "\x00",                          // retained
			head + "\x01\x00\x01c",                 // filters
			head + "\x01\x00\x01c\x00\x00\x00",     // flights
			head + "\x01\x00\x01c\x00\x00\x00\x00", // what waits
			head + "\x01\x00\x01c\x00\x00\x00\x00\x00",                  // what came in
			head + "\x01\x00\x01c\x00\x00\x00\x00\x00\x00",              // retained
			head + "\x00\x01\x00\x01t\x00",                              // a payload
			head + "\x01\x00\x01c\x00\x00\x00\x00\x01\x01\x00\x01t\x01", // the payload of what waits
		} {
			b := []byte(ahead + many)
			wantDecode(t, fmt.Sprintf("%q", b), b, len(b), errForm)
		}
	}
	wantDecode(t, "half a number", []byte(head+"\x01\x00\x01c\x00\x00\x00\x00\x00\xFF\xFF\xFF\x7F\x00\x01\x00"), 23, errForm)
}

// TestSame: each field counts, and a nil list is like an empty one.
func TestSame(t *testing.T) {
	if !image.Same(api.Image{}, api.Image{}) || !image.Same(full(), full()) {
		t.Error("P15.5: an image and itself")
	}
	for i, change := range changes() {
		m := full()
		change(&m)
		if image.Same(m, full()) || image.Same(full(), m) {
			t.Errorf("P15.5: change %d doesn't show", i)
		}
		if !image.Same(m, copied(m)) {
			t.Errorf("P15.5: change %d: its copy is another one", i)
		}
	}
	for _, s := range spoilers() {
		m := full()
		s.spoil(&m)
		if image.Same(m, full()) != (drawn(m) == drawn(full())) {
			t.Errorf("P15.5: %s", s.name)
		}
	}
	bare := func(l []api.Message, b []byte) api.Image {
		s := api.Session{Subs: make([]api.Ask, len(l)), Window: api.Window{Flight: []api.Flight{{Msg: api.Message{Payload: b}}}, Queue: l}}
		if l == nil {
			s.Subs = nil
		}
		return api.Image{Sessions: []api.Session{s}, Retained: l}
	}
	a, b := bare(nil, nil), bare([]api.Message{}, []byte{})
	b.Sessions[0].Inbox = []int{}
	if !image.Same(a, b) || !image.Same(b, a) {
		t.Error("P15.5: a nil list isn't like an empty one")
	}
	if !image.Same(api.Image{}, api.Image{Sessions: []api.Session{}}) {
		t.Error("P15.5: no sessions aren't like nil")
	}
}

// changes: ways to make full another image, one a field.
func changes() []func(m *api.Image) {
	return []func(m *api.Image){
		func(m *api.Image) { m.Autos++ },
		func(m *api.Image) { m.Sessions = m.Sessions[:2] },
		func(m *api.Image) { m.Sessions = append(m.Sessions, api.Session{}) },
		func(m *api.Image) { m.Sessions = nil },
		func(m *api.Image) { m.Sessions[0], m.Sessions[1] = m.Sessions[1], m.Sessions[0] },
		func(m *api.Image) { m.Sessions[2].Client = "e" },
		func(m *api.Image) { m.Sessions[0].Subs[2].Filter = "a.c" },
		func(m *api.Image) { m.Sessions[0].Subs[2].QoS = 2 },
		func(m *api.Image) { m.Sessions[0].Subs = m.Sessions[0].Subs[:2] },
		func(m *api.Image) { m.Sessions[2].Subs = []api.Ask{{}} },
		func(m *api.Image) { m.Sessions[0].Window.Last++ },
		func(m *api.Image) { m.Sessions[0].Window.Flight[2].ID-- },
		func(m *api.Image) { m.Sessions[0].Window.Flight[2].Released = true },
		func(m *api.Image) { m.Sessions[0].Window.Flight[2].Msg.Topic = "x" },
		func(m *api.Image) { m.Sessions[0].Window.Flight[2].Msg.Payload[0]++ },
		func(m *api.Image) { m.Sessions[0].Window.Flight[2].Msg.QoS = 2 },
		func(m *api.Image) { m.Sessions[0].Window.Flight[2].Msg.Retain = true },
		func(m *api.Image) { m.Sessions[0].Window.Flight[0].Msg.Retain = true },
		func(m *api.Image) { m.Sessions[0].Window.Flight = m.Sessions[0].Window.Flight[:2] },
		func(m *api.Image) { m.Sessions[0].Window.Queue[1].Topic = "x" },
		func(m *api.Image) { m.Sessions[0].Window.Queue[1].Payload = []byte{0} },
		func(m *api.Image) { m.Sessions[0].Window.Queue[1].QoS = 1 },
		func(m *api.Image) { m.Sessions[0].Window.Queue[1].Retain = false },
		func(m *api.Image) { m.Sessions[0].Window.Queue = nil },
		func(m *api.Image) { m.Sessions[0].Inbox[2]-- },
		func(m *api.Image) { m.Sessions[0].Inbox = m.Sessions[0].Inbox[:2] },
		func(m *api.Image) { m.Sessions[2].Inbox = []int{0} },
		func(m *api.Image) { m.Retained[2].Topic = "x" },
		func(m *api.Image) { m.Retained[2].Payload = append(m.Retained[2].Payload, 0) },
		func(m *api.Image) { m.Retained[2].QoS = 1 },
		func(m *api.Image) { m.Retained[2].Retain = false },
		func(m *api.Image) { m.Retained = m.Retained[:2] },
	}
}
