package window_test

import (
	"bytes"
	"fmt"
	"runtime"
	"slices"
	"strings"
	"testing"

	"crier/api"
	"crier/window"
)

// roomy tells a message whose payload has spare room behind it.
func roomy(name string, qos int) api.Message {
	m := note(name, qos)
	m.Payload = append(make([]byte, 0, 40), m.Payload...)
	return m
}

// overwrite writes over bytes, and over their spare room.
func overwrite(b []byte) {
	b = b[:cap(b)]
	for i := range b {
		b[i] = '!'
	}
}

// spoil writes over packets, and over their spare room.
func spoil(l []api.Packet) {
	l = l[:cap(l)]
	for i := range l {
		overwrite(l[i].Msg.Payload)
		l[i] = api.Packet{Kind: -1, ID: -1, Dup: true, Msg: api.Message{Topic: "spoilt", QoS: 9}}
	}
}

func spoilImage(im api.Window) {
	flight, queue := im.Flight[:cap(im.Flight)], im.Queue[:cap(im.Queue)]
	for i := range flight {
		overwrite(flight[i].Msg.Payload)
		flight[i] = api.Flight{ID: -1, Msg: api.Message{Topic: "spoilt"}, Released: true}
	}
	for i := range queue {
		overwrite(queue[i].Payload)
		queue[i] = api.Message{Topic: "spoilt"}
	}
}

// eachAnswer does all calls that answer lists, against the model, and hands on what they answer.
func eachAnswer(t *testing.T, sent func([]api.Packet), image func(api.Window)) {
	m := &model{window: 3, queue: 3}
	x := &twin{t: t, w: window.New(3, 3), m: m}
	both := func(got, want []api.Packet) {
		x.packets("DOC 3", got, want)
		sent(got)
		image(x.w.Image())
		x.hold()
	}
	send := func(name string, qos int) {
		got, _, _ := x.w.Send(roomy(name, qos))
		want, _, _ := m.send(note(name, qos))
		both(got, want)
	}
	ack := func(kind, id int) { both(x.w.Ack(kind, id), m.ack(kind, id)) }
	up := func() { both(x.w.Up(), m.up()) }
	send("a", 2)
	send("b", 1)
	up()
	for _, s := range []string{"c", "d", "e", "f"} {
		send(s, 2)
	}
	up()
	ack(api.Pubrec, 1)
	ack(api.Pubrec, 1)
	up()
	ack(api.Puback, 2)
	ack(api.Pubcomp, 1)
	ack(api.Pubrec, 3)
	up()
	x.down()
	up()
	ack(api.Pubcomp, 3)
	up()
}

// What is done with an answer shows in no later one.
func TestAnswersWrittenOver(t *testing.T) {
	eachAnswer(t, spoil, spoilImage)
}

// What is done with an answer shows in no earlier one, and neither does what the window does later.
func TestEarlierAnswersStay(t *testing.T) {
	var sent [][]api.Packet
	var images []api.Window
	var texts, shapes []string
	eachAnswer(t, func(l []api.Packet) {
		sent, texts = append(sent, l), append(texts, told(l))
	}, func(im api.Window) {
		images, shapes = append(images, im), append(shapes, drawn(im))
	})
	for i := range sent {
		for j := i; j < len(sent); j++ {
			if got := told(sent[j]); got != texts[j] {
				t.Fatalf("DOC 3: answer %d was %s, is %s", j, texts[j], got)
			}
			if got := drawn(images[j]); got != shapes[j] {
				t.Fatalf("DOC 3: image %d was %s, is %s", j, shapes[j], got)
			}
		}
		spoil(sent[i])
		spoilImage(images[i])
	}
}

// No two lists of one answer share memory: each payload is written over, and its spare room, and the others stay.
func TestListsOfOneAnswer(t *testing.T) {
	same := roomy("same", 1)
	flight := []api.Flight{{ID: 1, Msg: same}, {ID: 2, Msg: same}, {ID: 3, Released: true}}
	w, _ := window.Of(6, 6, api.Window{Last: 9, Flight: flight, Queue: []api.Message{same, same, same, same}})
	hold := func(what string, payloads [][]byte) {
		for i, p := range payloads {
			if string(p) != "<same>" {
				t.Fatalf("DOC 3: %s: payload %d is %q", what, i, p)
			}
			overwrite(p)
		}
	}
	im := w.Image()
	var l [][]byte
	for _, f := range im.Flight[:2] {
		l = append(l, f.Msg.Payload)
	}
	for _, m := range im.Queue {
		l = append(l, m.Payload)
	}
	hold("Image", l)
	l = nil
	for _, p := range w.Up() {
		if p.Kind == api.Publish {
			l = append(l, p.Msg.Payload)
		}
	}
	hold("Up", l)
	if string(same.Payload) != "<same>" || len(l) != 5 {
		t.Errorf("DOC 3: what was handed in is %q; %d messages were sent", same.Payload, len(l))
	}
}

// What is handed in is neither changed, nor its spare room, nor kept: it may be written over.
func TestWhatIsHandedIn(t *testing.T) {
	for qos := 1; qos < 3; qos++ {
		for _, online := range []bool{true, false} {
			w := window.New(1, 1)
			if online {
				w.Up()
			}
			for range 3 {
				m := roomy("m", qos)
				whole := bytes.Clone(m.Payload[:cap(m.Payload)])
				w.Send(m)
				w.Image()
				if !bytes.Equal(m.Payload[:cap(m.Payload)], whole) {
					t.Errorf("DOC 3: Send changes what it is handed: %q", m.Payload[:cap(m.Payload)])
				}
				overwrite(m.Payload)
			}
			for _, p := range w.Up() {
				if string(p.Msg.Payload) != "<m>" {
					t.Errorf("DOC 3: Send keeps what it is handed: %q", p.Msg.Payload)
				}
			}
			for _, m := range w.Image().Queue {
				if string(m.Payload) != "<m>" {
					t.Errorf("DOC 3: Send keeps what it is handed: %q", m.Payload)
				}
			}
		}
	}
}

func TestImageThatIsHandedIn(t *testing.T) {
	im := api.Window{
		Last:   5,
		Flight: append(make([]api.Flight, 0, 9), api.Flight{ID: 5, Msg: roomy("f", 1)}, api.Flight{ID: 1, Released: true}, api.Flight{ID: 4, Msg: roomy("g", 2)}),
		Queue:  append(make([]api.Message, 0, 9), roomy("q", 2), roomy("r", 1)),
	}
	whole := drawn(api.Window{Flight: im.Flight[:9], Queue: im.Queue[:9]})
	room := func() string {
		return fmt.Sprintf("%q", im.Queue[0].Payload[:40]) + fmt.Sprintf("%q", im.Flight[0].Msg.Payload[:40])
	}
	spare := room()
	x := twinOf(t, 4, 4, api.Window{Last: im.Last, Flight: slices.Clone(im.Flight), Queue: slices.Clone(im.Queue)})
	w, e := window.Of(4, 4, im)
	if e != api.OK {
		t.Fatalf("P12.7: %d", e)
	}
	w.Up()
	w.Ack(api.Pubrec, 4)
	w.Ack(api.Puback, 5)
	w.Send(note("s", 1))
	if got := drawn(api.Window{Flight: im.Flight[:9], Queue: im.Queue[:9]}); got != whole || room() != spare {
		t.Errorf("DOC 3: Of changes what it is handed: %s, was %s", got, whole)
	}
	w, _ = window.Of(4, 4, im)
	want := x.w.Image()
	spoilImage(im)
	if got := w.Image(); !sameImage(got, want) {
		t.Errorf("DOC 3: Of keeps what it is handed: %s", drawn(got))
	}
	if a, b := w.Up(), x.w.Up(); !sameSent(a, b) {
		t.Errorf("DOC 3: Of keeps what it is handed: %s", told(a))
	}
}

// rough: by how many bytes what held tells may be wrong: some garbage of others is gone only at a later reading.
const rough = 1 << 20

// held tells how many bytes the program has, garbage aside.
func held() int {
	var s runtime.MemStats
	runtime.GC()
	runtime.GC()
	runtime.ReadMemStats(&s)
	return int(s.HeapAlloc)
}

// small holds that a window keeps nothing to speak of.
func small(t *testing.T, why string, before int, w *window.Window) {
	t.Helper()
	if n := held() - before; n > rough {
		t.Errorf("%s: %d bytes are kept", why, n)
	}
	runtime.KeepAlive(w)
}

// A message is forgotten when it is released, or under way no more; what is sent again, or lost, leaves nothing.
func TestMessagesAreForgotten(t *testing.T) {
	const n = 32
	great := func(qos int) api.Message {
		return api.Message{Topic: "t", Payload: make([]byte, 1<<20), QoS: qos}
	}
	before := held()
	w := window.New(n/2, n/2)
	w.Up()
	for i := range 2 * n {
		w.Send(great(2 - i%n/(n/2)))
	}
	if kept := held() - before; kept < n<<20-rough {
		t.Fatalf("P12.3: %d bytes are kept of %d messages", kept, n)
	}
	for id := 1; id <= n/2; id++ {
		w.Ack(api.Pubrec, id)
	}
	if kept := held() - before; kept > n/2<<20+rough {
		t.Errorf("P12.4: a released message is kept: %d bytes", kept)
	}
	for id := 1; id <= n/2; id++ {
		w.Ack(api.Pubcomp, id)
	}
	w.Down()
	w.Up()
	for id := n/2 + 1; id <= n; id++ {
		w.Ack(api.Puback, id)
	}
	if w.Flying() != 0 || w.Waiting() != 0 {
		t.Fatalf("P12.4: %d under way, %d wait", w.Flying(), w.Waiting())
	}
	small(t, "P12.4: nothing is under way", before, w)
}

// What waited is kept no longer than it waits and is under way, however many wait behind it.
func TestLineForgets(t *testing.T) {
	const n = 32
	before := held()
	w := window.New(1, n)
	for range n {
		w.Send(api.Message{Topic: "t", Payload: make([]byte, 1<<20), QoS: 1})
	}
	w.Up()
	for id := 1; id < n; id++ {
		w.Ack(api.Puback, id)
		if kept := held() - before; kept > (n-id)<<20+rough {
			t.Fatalf("P12.4: %d bytes are kept of %d messages", kept, w.Flying()+w.Waiting())
		}
	}
	w.Ack(api.Puback, n)
	small(t, "P12.4: nothing waits", before, w)
}

// Many windows that had numbers far apart keep no room for these.
func TestManyWindows(t *testing.T) {
	var im api.Window
	for id := 1; id <= maxID; id += 64 {
		im.Flight = append(im.Flight, api.Flight{ID: id, Released: true})
	}
	before := held()
	var all []*window.Window
	for range 200 {
		w, _ := window.Of(maxWindow, 0, im)
		w.Up()
		for _, f := range im.Flight {
			w.Ack(api.Pubcomp, f.ID)
		}
		all = append(all, w)
	}
	small(t, "windows with nothing", before, all[0])
	runtime.KeepAlive(all)
}

// A window that was full keeps no room for it, nor does one in which little is left of what waited.
func TestRoomIsGivenBack(t *testing.T) {
	before := held()
	w := window.New(maxWindow, maxQueue)
	for range maxQueue {
		w.Send(note("a", 1))
	}
	w.Up()
	waited := w.Waiting()
	for id := 1; id <= maxID; id++ {
		w.Ack(api.Puback, id)
	}
	w.Ack(api.Puback, 1)
	if waited != 1 || w.Flying() != 0 || w.Waiting() != 0 {
		t.Fatalf("P12.6: %d waited, %d under way, %d wait", waited, w.Flying(), w.Waiting())
	}
	small(t, "a window that was full", before, w)

	w = window.New(1, maxQueue)
	for range maxQueue {
		w.Send(note("a", 1))
	}
	w.Up()
	for id := 1; w.Waiting() > 10; id = id%maxID + 1 {
		w.Ack(api.Puback, id)
	}
	small(t, "a window in which much waited", before, w)

	w = window.New(1, 0)
	for range maxID - 1 {
		w.Reserve()
	}
	for id := range maxID {
		w.Free(id)
	}
	small(t, "a window of which much was reserved", before, w)
}

// A topic that is a piece of a great text doesn't keep that text.
func TestPieceOfAText(t *testing.T) {
	before := held()
	w := window.New(20, 20)
	for i := range 20 {
		great := strings.Repeat("x", 1<<20)
		w.Send(api.Message{Topic: great[i : i+3], QoS: 1})
		if i == 10 {
			w.Up()
		}
	}
	great := strings.Repeat("x", 1<<24)
	o, _ := window.Of(9, 9, api.Window{Flight: []api.Flight{{ID: 1, Msg: api.Message{Topic: great[:3], QoS: 1}}}, Queue: []api.Message{{Topic: great[4:7], QoS: 2}}})
	small(t, "LANGUAGE 7: a piece of a text", before, w)
	runtime.KeepAlive(o)
}

// Years of small traffic leave nothing behind.
func TestNothingGathers(t *testing.T) {
	before := held()
	w := window.New(2, 2)
	w.Up()
	sent := 0
	for i := range 300000 {
		l, _, _ := w.Send(note("a", 1+i%2))
		for len(l) > 0 {
			p := l[0]
			sent++
			l = l[1:]
			switch {
			case p.Kind == api.Pubrel:
				l = append(l, w.Ack(api.Pubcomp, p.ID)...)
			case p.Msg.QoS == 2:
				l = append(l, w.Ack(api.Pubrec, p.ID)...)
			default:
				l = append(l, w.Ack(api.Puback, p.ID)...)
			}
		}
		if i%1000 == 0 {
			id, _ := w.Reserve()
			w.Free(id)
		}
	}
	if sent != 450000 || w.Flying() != 0 {
		t.Fatalf("P12.4: %d packets were sent, %d are under way", sent, w.Flying())
	}
	small(t, "traffic", before, w)
}
