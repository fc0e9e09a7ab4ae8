package window_test

import (
	"fmt"
	"math"
	"strings"
	"testing"

	"crier/api"
	"crier/window"
)

func TestExample(t *testing.T) {
	x := newTwin(t, 1, 1)
	a, b := note("a", 2), note("b", 1)
	x.send(a)
	x.hold()
	if got := x.w.Up(); !sameSent(got, []api.Packet{publish(a, 1)}) {
		t.Errorf("P12.6: Up: %s", told(got))
	}
	x.m.up()
	x.send(b)
	x.send(note("c", 1))
	x.ack(api.Puback, 1)
	x.hold()
	if got := x.w.Ack(api.Pubrec, 1); !sameSent(got, []api.Packet{pubrel(1)}) {
		t.Errorf("P12.4: Pubrec: %s", told(got))
	}
	x.m.ack(api.Pubrec, 1)
	x.down()
	if got := x.w.Up(); !sameSent(got, []api.Packet{pubrel(1)}) {
		t.Errorf("P12.6: Up: %s", told(got))
	}
	x.m.up()
	if got := x.w.Ack(api.Pubcomp, 1); !sameSent(got, []api.Packet{publish(b, 2)}) {
		t.Errorf("P12.4: Pubcomp: %s", told(got))
	}
	x.m.ack(api.Pubcomp, 1)
	x.down()
	if got := x.w.Up(); !sameSent(got, []api.Packet{dup(b, 2)}) {
		t.Errorf("P12.6: Up: %s", told(got))
	}
	x.m.up()
	x.ack(api.Puback, 2)
	x.hold()
	if im := x.w.Image(); !sameImage(im, api.Window{Last: 2}) {
		t.Errorf("P12.7: Image: %s", drawn(im))
	}
}

// TestNew: nothing is there, whatever the bounds are.
func TestNew(t *testing.T) {
	for _, most := range []int{math.MinInt, -1, 0, 1, 2, maxWindow, maxWindow + 1, math.MaxInt} {
		for _, queue := range []int{math.MinInt, -1, 0, 1, maxQueue, maxQueue + 1, math.MaxInt} {
			w := window.New(most, queue)
			if w.Online() || w.Flying() != 0 || w.Waiting() != 0 || !sameImage(w.Image(), api.Window{}) {
				t.Errorf("P12.1: New(%d, %d): %t, %d, %d, %s", most, queue, w.Online(), w.Flying(), w.Waiting(), drawn(w.Image()))
			}
			if l := w.Up(); len(l) != 0 || !w.Online() {
				t.Errorf("P12.6: New(%d, %d): Up: %s", most, queue, told(l))
			}
			w.Down()
			if w.Online() {
				t.Errorf("P12.6: New(%d, %d): online behind Down", most, queue)
			}
		}
	}
}

// TestBounds: small windows have just as many under way, and waiting, as they may; one more is lost.
func TestBounds(t *testing.T) {
	for most, may := range map[int]int{math.MinInt: 1, -1: 1, 0: 1, 1: 1, 2: 2, 3: 3, 10: 10} {
		for queue, room := range map[int]int{math.MinInt: 0, -1: 0, 0: 0, 1: 1, 2: 2, 9: 9} {
			w := window.New(most, queue)
			w.Up()
			for i := range may + room + 2 {
				l, ok, e := w.Send(note(fmt.Sprint(i), 1+i%2))
				if (len(l) == 1) != (i < may) || ok != (i < may+room) || e != api.OK {
					t.Fatalf("P12.3: New(%d, %d): message %d: %s, %t, %d", most, queue, i, told(l), ok, e)
				}
				if w.Flying() != min(i+1, may) || w.Waiting() != min(max(i+1-may, 0), room) {
					t.Fatalf("P12.1: New(%d, %d): message %d: %d under way, %d wait", most, queue, i, w.Flying(), w.Waiting())
				}
			}
			off := window.New(most, queue)
			for i := range room + 2 {
				if l, ok, e := off.Send(note("o", 1)); len(l) != 0 || ok != (i < room) || e != api.OK {
					t.Fatalf("P12.3: New(%d, %d): offline, message %d: %s, %t, %d", most, queue, i, told(l), ok, e)
				}
			}
			if n := len(off.Up()); n != min(may, room) {
				t.Fatalf("P12.6: New(%d, %d): Up sends %d", most, queue, n)
			}
		}
	}
}

// TestGreatest: MaxWindow under way and MaxQueue waiting, by bounds at MaxWindow and MaxQueue and beyond them; then each number but the one that came back is taken.
func TestGreatest(t *testing.T) {
	for _, beyond := range []int{0, 1, math.MaxInt - maxQueue} {
		w := window.New(maxWindow+beyond, maxQueue+beyond)
		w.Up()
		for i := range maxWindow {
			if l, ok, _ := w.Send(note("a", 1)); len(l) != 1 || l[0].ID != i+1 || !ok {
				t.Fatalf("P12.2: message %d: %s, %t", i, told(l), ok)
			}
		}
		for i := range maxQueue + 1 {
			if l, ok, _ := w.Send(note("b", 1)); len(l) != 0 || ok != (i < maxQueue) {
				t.Fatalf("P12.3: message %d behind MaxWindow: %s, %t", i, told(l), ok)
			}
		}
		if w.Flying() != maxWindow || w.Waiting() != maxQueue {
			t.Fatalf("P12.1: %d under way, %d wait", w.Flying(), w.Waiting())
		}
		for i := range maxWindow {
			id := maxID - i
			if i%3 == 0 {
				id = i/3 + 1
			}
			l := w.Ack(api.Puback, id)
			if len(l) != 1 || l[0].ID != id {
				t.Fatalf("P12.4: Puback %d of a full window: %s", id, told(l))
			}
		}
		if n := len(w.Up()); n != w.Flying() {
			t.Errorf("P12.6: %d sent again, %d under way", n, w.Flying())
		}
	}
}

// TestGreatestImage: an image at both bounds is taken, and resumes whole.
func TestGreatestImage(t *testing.T) {
	im := api.Window{Last: 77}
	for i := range maxWindow {
		im.Flight = append(im.Flight, api.Flight{ID: maxID - i, Released: i%2 == 0})
		if i%2 == 1 {
			im.Flight[i].Msg = note("f", 1+i/2%2)
		}
	}
	for range maxQueue {
		im.Queue = append(im.Queue, note("q", 1))
	}
	w, e := window.Of(maxWindow, maxQueue, im)
	if e != api.OK || !sameImage(w.Image(), im) {
		t.Fatalf("P12.7: the greatest image: %d", e)
	}
	l := w.Up()
	if len(l) != maxWindow || w.Waiting() != maxQueue {
		t.Fatalf("P12.6: %d sent, %d wait", len(l), w.Waiting())
	}
	for i, p := range l {
		if p.ID != maxID-i || (p.Kind == api.Pubrel) != (i%2 == 0) || p.Dup != (i%2 == 1) {
			t.Fatalf("P12.6: packet %d: %s", i, told(l[i:i+1]))
		}
	}
	one := im
	one.Queue = append(im.Queue[:maxQueue:maxQueue], note("q", 2))
	if w, e := window.Of(maxWindow+1, maxQueue+1, one); w != nil || e != api.ErrWindowMany {
		t.Errorf("P12.7: more than MaxQueue wait: %d", e)
	}
	one = im
	one.Flight = append(im.Flight[:maxWindow:maxWindow], api.Flight{ID: 5, Msg: note("f", 1)})
	if w, e := window.Of(maxWindow+1, maxQueue+1, one); w != nil || e != api.ErrWindowForm {
		t.Errorf("P12.7: a number stands there twice among MaxWindow: %d", e)
	}
}

// TestNumbers: the first number above the last one given, behind MaxID 1, over all that is under way or reserved.
func TestNumbers(t *testing.T) {
	held := func(ids ...int) []api.Flight {
		var l []api.Flight
		for i, id := range ids {
			f := api.Flight{ID: id, Released: i%2 == 1}
			if !f.Released {
				f.Msg = note("h", 1)
			}
			l = append(l, f)
		}
		return l
	}
	span := func(first, last int) []int {
		var l []int
		for id := first; id <= last; id++ {
			l = append(l, id)
		}
		return l
	}
	for i, c := range []struct {
		last int
		ids  []int
		want []int
	}{
		{0, nil, []int{1, 2, 3}},
		{1, nil, []int{2, 3}},
		{65533, nil, []int{65534, 65535, 1, 2}},
		{65535, nil, []int{1, 2}},
		{65534, nil, []int{65535, 1}},
		{0, []int{1}, []int{2}},
		{0, []int{2, 1, 4}, []int{3, 5}},
		{65534, []int{65535, 1}, []int{2, 3}},
		{65535, []int{65535}, []int{1}},
		{65535, []int{1, 65535, 2}, []int{3}},
		{5, []int{5}, []int{6}},
		{5, []int{6, 7}, []int{8}},
		{62, nil, []int{63, 64, 65}},
		{63, nil, []int{64, 65}},
		{64, nil, []int{65}},
		{60, span(61, 70), []int{71}},
		{60, span(61, 127), []int{128, 129}},
		{60, span(61, 128), []int{129}},
		{65000, span(65001, 65535), []int{1}},
		{65000, append(span(65001, 65535), span(1, 200)...), []int{201}},
		{100, append(span(101, 65535), span(1, 98)...), []int{99, 100}},
		{100, append(span(101, 65535), span(1, 99)...), []int{100}},
		{0, span(1, 65534), []int{65535}},
		{65535, span(2, 65535), []int{1}},
		{65535, span(1, 65534), []int{65535}},
		{64, append(span(65, 65535), span(1, 63)...), []int{64}},
		{127, append(span(128, 65535), span(1, 126)...), []int{127}},
		{70, append(span(71, 65535), append(span(1, 65), span(67, 70)...)...), []int{66}},
	} {
		for _, how := range []string{"Send", "Up", "Reserve"} {
			im := api.Window{Last: c.last, Flight: held(c.ids...)}
			most := len(c.ids) + len(c.want)
			if how == "Reserve" {
				most = max(len(c.ids), 1)
			}
			if how == "Up" {
				for range c.want {
					im.Queue = append(im.Queue, note("n", 2))
				}
			}
			w, e := window.Of(most, len(c.want), im)
			if e != api.OK {
				t.Fatalf("P12.7: row %d: %d", i, e)
			}
			var got []int
			if how != "Reserve" {
				for _, p := range w.Up()[len(c.ids):] {
					got = append(got, p.ID)
				}
			}
			for range c.want {
				switch how {
				case "Send":
					l, _, _ := w.Send(note("n", 1))
					got = append(got, l[0].ID)
				case "Reserve":
					id, _ := w.Reserve()
					got = append(got, id)
				}
			}
			if fmt.Sprint(got) != fmt.Sprint(c.want) || w.Image().Last != c.want[len(c.want)-1] {
				t.Errorf("P12.2: row %d, %s: %v, the last %d; want %v", i, how, got, w.Image().Last, c.want)
			}
		}
	}
}

// TestSendRefuses: what is refused changes nothing, be there room or not.
func TestSendRefuses(t *testing.T) {
	for _, x := range []*twin{newTwin(t, 2, 2), newTwin(t, 1, 0), newTwin(t, 1, 1)} {
		for range 3 {
			for _, qos := range noQoS() {
				for _, m := range []api.Message{{}, note("a", 0), {Topic: "+", Retain: true}} {
					m.QoS = qos
					if l, ok, e := x.w.Send(m); len(l) != 0 || ok || e != 122 {
						t.Fatalf("P12.3: Send at %d: %s, %t, %d", qos, told(l), ok, e)
					}
					x.hold()
				}
			}
			x.up()
			x.send(note("b", 1))
			x.send(note("c", 2))
		}
	}
}

// TestMessagesAsTheyAre: a topic, a payload and a mark are what they were, whether they may be or not.
func TestMessagesAsTheyAre(t *testing.T) {
	for _, s := range []string{"", "a/b", "+/#", "\x00", "\xFF\xC0", "$SYS", strings.Repeat("a", 65536)} {
		for _, payload := range [][]byte{nil, {}, {0}, []byte(strings.Repeat("p", 1<<17))} {
			for qos := 1; qos < 3; qos++ {
				for _, retain := range []bool{false, true} {
					m := api.Message{Topic: s, Payload: payload, QoS: qos, Retain: retain}
					x := newTwin(t, 2, 2)
					x.send(m)
					x.up()
					x.send(m)
					x.send(m)
					x.hold()
					x.up()
					for _, kind := range []int{api.Puback, api.Pubrec, api.Pubcomp} {
						x.ack(kind, 1)
					}
					x.hold()
					x.up()
					y := twinOf(t, 2, 2, x.w.Image())
					y.up()
					y.hold()
				}
			}
		}
	}
}

// standing tells a window with what can be under way: 1 sent at quality 1, 2 sent at quality 2, 3 released; 4 reserved; 5 gone; and one that waits.
func standing(t *testing.T, online bool) *twin {
	x := newTwin(t, 3, 1)
	x.up()
	x.send(note("one", 1))
	x.send(note("two", 2))
	x.send(note("three", 2))
	x.ack(api.Pubrec, 3)
	x.reserve()
	x.reserve()
	x.free(5)
	x.send(note("w", 1))
	if !online {
		x.down()
	}
	x.hold()
	return x
}

// TestAck: each kind against each state; what fits nothing does nothing.
func TestAck(t *testing.T) {
	next := publish(note("w", 1), 6)
	for id := 1; id <= 6; id++ {
		for _, kind := range append(noKind(), api.Puback, api.Pubrec, api.Pubcomp) {
			x := standing(t, true)
			before := x.w.Image()
			var want []api.Packet
			switch {
			case id == 1 && kind == api.Puback, id == 3 && kind == api.Pubcomp:
				want = []api.Packet{next}
			case (id == 2 || id == 3) && kind == api.Pubrec:
				want = []api.Packet{pubrel(id)}
			}
			got := x.w.Ack(kind, id)
			if !sameSent(got, want) {
				t.Errorf("P12.4: Ack(%d, %d): %s; want %s", kind, id, told(got), told(want))
			}
			if len(want) == 0 && !sameImage(x.w.Image(), before) {
				t.Errorf("P12.4: Ack(%d, %d) changes %s into %s", kind, id, drawn(before), drawn(x.w.Image()))
			}
			x.m.ack(kind, id)
			x.hold()

			off := standing(t, false)
			if got := off.w.Ack(kind, id); len(got) != 0 {
				t.Errorf("P12.4: offline, Ack(%d, %d): %s", kind, id, told(got))
			}
			off.hold()
			off.up()
			off.hold()
		}
	}
	for _, online := range []bool{true, false} {
		x := standing(t, online)
		for _, id := range noID() {
			for _, kind := range append(noKind(), api.Puback, api.Pubrec, api.Pubcomp) {
				x.ack(kind, id)
			}
		}
		x.hold()
	}
}

// TestAckAgain: each acknowledgement a second time, and behind the others: a Pubrec is answered each time, till the Pubcomp.
func TestAckAgain(t *testing.T) {
	x := newTwin(t, 2, 5)
	x.up()
	for i := range 6 {
		x.send(note(fmt.Sprint(i), 1+i%2))
	}
	for _, kind := range []int{api.Pubcomp, api.Pubrec, api.Pubrec, api.Puback, api.Puback, api.Pubcomp, api.Pubcomp, api.Pubrec} {
		for id := 1; id < 7; id++ {
			x.ack(kind, id)
			x.hold()
		}
		x.up()
		x.hold()
	}
}

// TestReleasedIsForgotten: of a released one neither the image nor what is sent again tells a message; nor does a Pubrec that comes anew.
func TestReleasedIsForgotten(t *testing.T) {
	x := newTwin(t, 3, 3)
	x.up()
	m := note("m", 2)
	m.Retain = true
	for range 3 {
		x.send(m)
	}
	for _, id := range []int{2, 1, 2} {
		x.ack(api.Pubrec, id)
	}
	want := api.Window{Last: 3, Flight: []api.Flight{{ID: 1, Released: true}, {ID: 2, Released: true}, {ID: 3, Msg: m}}}
	if im := x.w.Image(); !sameImage(im, want) {
		t.Errorf("P12.4: Image: %s", drawn(im))
	}
	if l := x.w.Up(); !sameSent(l, []api.Packet{pubrel(1), pubrel(2), dup(m, 3)}) {
		t.Errorf("P12.6: Up: %s", told(l))
	}
}

// TestReserve: as many as MaxID without the window, and no more; a launch finds a number still.
func TestReserve(t *testing.T) {
	for most, may := range map[int]int{math.MinInt: 65534, 0: 65534, 1: 65534, 2: 65533, 60000: 5535, 65533: 2, 65534: 1, 65535: 0, 65536: 0, math.MaxInt: 0} {
		for _, online := range []bool{true, false} {
			w := window.New(most, 10)
			if online {
				w.Up()
			}
			for i := range may + 2 {
				id, ok := w.Reserve()
				if want := i < may; ok != want || want && id != i+1 || !want && id != 0 {
					t.Fatalf("P12.5: New(%d, ..): Reserve %d: %d, %t", most, i, id, ok)
				}
			}
			if w.Image().Last != may || len(w.Image().Flight) != 0 || w.Flying() != 0 {
				t.Fatalf("P12.5: New(%d, ..): %s", most, drawn(w.Image()))
			}
			w.Up()
			under := min(max(most, 1), maxWindow)
			for i := range under + 1 {
				l, ok, _ := w.Send(note("a", 1))
				if !ok || (len(l) == 1) != (i < under) || i < under && l[0].ID != may+i+1 {
					t.Fatalf("P12.5: New(%d, ..): message %d: %s", most, i, told(l))
				}
			}
			if id, ok := w.Reserve(); ok || id != 0 {
				t.Fatalf("P12.5: New(%d, ..): Reserve of a full one: %d, %t", most, id, ok)
			}
			if may == 0 {
				continue
			}
			if !w.Free(1) || w.Free(1) || w.Free(may+1) {
				t.Fatalf("P12.5: New(%d, ..): Free", most)
			}
			if id, ok := w.Reserve(); id != 1 || !ok {
				t.Fatalf("P12.5: New(%d, ..): Reserve of the one number: %d, %t", most, id, ok)
			}
			if id, ok := w.Reserve(); id != 0 || ok {
				t.Fatalf("P12.5: New(%d, ..): Reserve again: %d, %t", most, id, ok)
			}
		}
	}
}

// TestFree: only what is reserved, and once; a number that is free again is given when its turn comes.
func TestFree(t *testing.T) {
	for _, online := range []bool{true, false} {
		x := standing(t, online)
		for _, id := range append(noID(), 1, 2, 3, 5, 6, 7, 100, 65535) {
			if x.w.Free(id) {
				t.Errorf("P12.5: Free(%d): true", id)
			}
			x.hold()
		}
		x.free(4)
		x.free(4)
		x.hold()
		for range 10 {
			x.reserve()
			x.free(8)
			x.hold()
		}
	}
	w, _ := window.Of(1, 1, api.Window{Last: 65533})
	for i, want := range []int{65534, 65535, 1, 2} {
		if id, ok := w.Reserve(); id != want || !ok {
			t.Errorf("P12.5: Reserve %d behind 65533: %d, %t", i, id, ok)
		}
	}
	w.Free(65535)
	w.Free(1)
	w.Up()
	if l, _, _ := w.Send(note("a", 1)); l[0].ID != 3 {
		t.Errorf("P12.2: behind Free the number is %d: it isn't the next one", l[0].ID)
	}
}

// TestReservedOutlivesDown: Down, Up and acknowledgements free no number that is reserved.
func TestReservedOutlivesDown(t *testing.T) {
	x := newTwin(t, 2, 2)
	x.reserve()
	x.up()
	x.send(note("a", 1))
	x.reserve()
	x.down()
	x.up()
	for _, kind := range []int{api.Puback, api.Pubrec, api.Pubcomp} {
		for id := range 5 {
			x.ack(kind, id)
		}
	}
	x.down()
	if x.w.Free(2) || !x.w.Free(1) || !x.w.Free(3) || x.w.Free(3) {
		t.Error("P12.5: what is reserved isn't what it was ahead of Down")
	}
}

// TestUp: again while it is online, offline again and again: all that is under way each time, in the order in which it was first sent.
func TestUp(t *testing.T) {
	x := newTwin(t, 4, 10)
	for i := range 10 {
		x.send(note(fmt.Sprint(i), 1+i%2))
	}
	for i := range 12 {
		x.up()
		x.hold()
		x.up()
		x.hold()
		x.ack([]int{api.Puback, api.Pubrec, api.Pubcomp}[i%3], i/2+1)
		x.down()
		x.down()
		x.hold()
		x.send(note(fmt.Sprint("x", i), 1))
		x.hold()
	}
}

// TestAskingChangesNothing: Online, Flying, Waiting and Image, asked again.
func TestAskingChangesNothing(t *testing.T) {
	x := standing(t, true)
	for range 3 {
		x.hold()
		x.hold()
	}
	x.down()
	for range 3 {
		x.hold()
	}
	x.up()
	x.hold()
}
