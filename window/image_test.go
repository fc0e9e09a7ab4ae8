package window_test

import (
	"fmt"
	"math"
	"math/rand"
	"slices"
	"testing"

	"crier/api"
	"crier/window"
)

// refuse holds an error of Of, and that no window comes with it.
func refuse(t *testing.T, why string, most, queue int, im api.Window, want api.Errno) {
	t.Helper()
	if w, e := window.Of(most, queue, im); e != want || w != nil {
		t.Errorf("P12.7: %s: Of(%d, %d, %s): %v, %d; want %d", why, most, queue, drawn(im), w != nil, e, want)
	}
}

func TestOfRefusesNumbers(t *testing.T) {
	for _, last := range []int{-1, 65536, 1 << 32, 1<<32 + 1, math.MinInt, math.MaxInt} {
		refuse(t, "Last", 9, 9, api.Window{Last: last}, 120)
		refuse(t, "Last", 1, 0, api.Window{Last: last, Flight: []api.Flight{{ID: 1, Msg: note("a", 1)}}, Queue: []api.Message{note("q", 1)}}, 120)
	}
	for _, last := range []int{0, 1, 2, 65534, 65535} {
		twinOf(t, 9, 9, api.Window{Last: last}).hold()
	}
	right := api.Flight{ID: 7, Msg: note("a", 1)}
	for _, id := range noID() {
		for _, f := range []api.Flight{{ID: id, Msg: note("b", 1)}, {ID: id, Msg: note("b", 2)}, {ID: id, Released: true}} {
			refuse(t, "ID", 9, 9, api.Window{Flight: []api.Flight{f}}, 120)
			refuse(t, "ID", 9, 9, api.Window{Last: 8, Flight: []api.Flight{right, f}}, 120)
			refuse(t, "ID", 9, 9, api.Window{Last: 8, Flight: []api.Flight{f, right}}, 120)
		}
	}
	for _, id := range []int{1, 2, 63, 64, 65, 127, 128, 65534, 65535} {
		for _, f := range []api.Flight{{ID: id, Msg: note("b", 1)}, {ID: id, Msg: note("b", 2)}, {ID: id, Released: true}} {
			x := twinOf(t, 2, 9, api.Window{Flight: []api.Flight{right, f}})
			x.hold()
			x.up()
			x.hold()
			for _, g := range []api.Flight{{ID: id, Msg: note("b", 2)}, {ID: id, Released: true}} {
				refuse(t, "an ID twice", 9, 9, api.Window{Flight: []api.Flight{f, right, g}}, 120)
				refuse(t, "an ID twice", 9, 9, api.Window{Flight: []api.Flight{f, g}}, 120)
			}
		}
	}
}

func TestOfRefusesMessages(t *testing.T) {
	right := api.Flight{ID: 7, Msg: note("a", 1)}
	for _, m := range []api.Message{{Topic: "a"}, {Payload: []byte{0}}, {QoS: 1}, {QoS: 2}, {QoS: -1}, {QoS: 3}, {Retain: true}, note("a", 2)} {
		f := api.Flight{ID: 8, Msg: m, Released: true}
		refuse(t, "a released one's message", 9, 9, api.Window{Flight: []api.Flight{f}}, 120)
		refuse(t, "a released one's message", 9, 9, api.Window{Flight: []api.Flight{right, f}}, 120)
	}
	twinOf(t, 9, 9, api.Window{Flight: []api.Flight{{ID: 8, Released: true, Msg: api.Message{Payload: []byte{}}}}}).hold()
	twinOf(t, 9, 9, api.Window{Flight: []api.Flight{{ID: 8, Released: true, Msg: api.Message{Payload: make([]byte, 0, 9)}}}}).hold()
	for _, qos := range noQoS() {
		m := note("a", qos)
		f := api.Flight{ID: 8, Msg: m}
		refuse(t, "a sent one's quality", 9, 9, api.Window{Flight: []api.Flight{f}}, 120)
		refuse(t, "a sent one's quality", 9, 9, api.Window{Flight: []api.Flight{right, f}}, 120)
		for _, l := range [][]api.Message{{m}, {m, note("b", 1)}, {note("b", 1), note("c", 2), m}} {
			refuse(t, "a waiting one's quality", 9, 9, api.Window{Queue: l}, 120)
			refuse(t, "a waiting one's quality", 9, 9, api.Window{Flight: []api.Flight{right}, Queue: l}, 120)
		}
	}
	odd := []api.Message{{QoS: 1}, {QoS: 2, Topic: "+", Retain: true}, {QoS: 1, Topic: "\xFF\x00"}}
	for _, m := range odd {
		x := twinOf(t, 9, 9, api.Window{Flight: []api.Flight{{ID: 8, Msg: m}}, Queue: odd})
		x.hold()
		x.up()
		x.hold()
	}
}

// TestOfRefusesMany: as many as the window may have are taken, one more isn't; what can't be an image is told first.
func TestOfRefusesMany(t *testing.T) {
	flights := func(n int) (l []api.Flight) {
		for i := range n {
			l = append(l, api.Flight{ID: 2*i + 1, Msg: note("f", 1)})
		}
		return l
	}
	queue := func(n int) (l []api.Message) {
		for range n {
			l = append(l, note("q", 2))
		}
		return l
	}
	for most, under := range map[int]int{math.MinInt: 1, -1: 1, 0: 1, 1: 1, 2: 2, 5: 5} {
		for room, waits := range map[int]int{math.MinInt: 0, -1: 0, 0: 0, 1: 1, 5: 5} {
			x := twinOf(t, most, room, api.Window{Last: 3, Flight: flights(under), Queue: queue(waits)})
			x.hold()
			x.up()
			x.send(note("s", 1))
			x.hold()
			y := twinOf(t, most, room, api.Window{Flight: flights(under - 1), Queue: queue(waits)})
			y.up()
			y.send(note("s", 1))
			y.hold()
			refuse(t, "more under way", most, room, api.Window{Flight: flights(under + 1)}, 121)
			refuse(t, "more wait", most, room, api.Window{Queue: queue(waits + 1)}, 121)
			refuse(t, "more of both", most, room, api.Window{Flight: flights(under + 1), Queue: queue(waits + 1)}, 121)
			refuse(t, "more of both, and Last", most, room, api.Window{Last: 65536, Flight: flights(under + 1), Queue: queue(waits + 1)}, 120)
			refuse(t, "more under way, one twice", most, room, api.Window{Flight: append(flights(under+1), flights(1)...)}, 120)
			refuse(t, "more under way, a waiting one's quality", most, room, api.Window{Flight: flights(under + 1), Queue: []api.Message{{}}}, 120)
			refuse(t, "more wait, the last one's quality", most, room, api.Window{Queue: append(queue(waits+1), api.Message{QoS: 3})}, 120)
			refuse(t, "more wait, an ID", most, room, api.Window{Flight: []api.Flight{{Msg: note("f", 1)}}, Queue: queue(waits + 1)}, 120)
		}
	}
}

// TestOfIsOffline: what waits waits till Up, be there room or not; nothing is reserved.
func TestOfIsOffline(t *testing.T) {
	w, _ := window.Of(3, 3, api.Window{Last: 9, Flight: []api.Flight{{ID: 9, Msg: note("f", 1)}}, Queue: []api.Message{note("q", 1), note("r", 2)}})
	if w.Online() || w.Flying() != 1 || w.Waiting() != 2 {
		t.Errorf("P12.7: Of: %t, %d under way, %d wait", w.Online(), w.Flying(), w.Waiting())
	}
	if l := w.Ack(api.Puback, 9); len(l) != 0 || w.Flying() != 1 {
		t.Errorf("P12.7: Ack behind Of: %s", told(l))
	}
	if l, ok, _ := w.Send(note("s", 1)); len(l) != 0 || !ok {
		t.Errorf("P12.7: Send behind Of: %s", told(l))
	}
	if w.Free(9) || w.Free(10) {
		t.Error("P12.7: Of reserves a number")
	}
	if l := w.Up(); !sameSent(l, []api.Packet{dup(note("f", 1), 9), publish(note("q", 1), 10), publish(note("r", 2), 11)}) {
		t.Errorf("P12.6: Up behind Of: %s", told(l))
	}
}

// TestImageWithoutReserved: of what is reserved nothing but Last is told.
func TestImageWithoutReserved(t *testing.T) {
	w := window.New(2, 2)
	w.Reserve()
	w.Reserve()
	if im := w.Image(); !sameImage(im, api.Window{Last: 2}) {
		t.Errorf("P12.7: Image: %s", drawn(im))
	}
	o, _ := window.Of(2, 2, w.Image())
	if o.Free(1) || o.Free(2) || !w.Free(1) || !w.Free(2) {
		t.Error("P12.7: an image tells what is reserved")
	}
}

// TestSecondLife: a window of an image, and the one of which it was taken behind a Down, told the same (P12.10).
func TestSecondLife(t *testing.T) {
	r := rand.New(rand.NewSource(1210))
	for i := range 3000 {
		most, queue := 1+r.Intn(6), r.Intn(8)
		x := newTwin(t, most, queue)
		if r.Intn(2) == 0 {
			x = twinOf(t, most, queue, someImage(r, most, queue))
		}
		for j := range r.Intn(60) {
			someStep(r, x, fmt.Sprint(j))
		}
		for _, id := range slices.Clone(x.m.reserved) {
			x.free(id)
		}
		o, e := window.Of(most, queue, x.w.Image())
		if e != api.OK {
			t.Fatalf("P12.10: life %d: %d of %s", i, e, drawn(x.w.Image()))
		}
		x.down()
		m := *x.m
		m.flight = slices.Clone(m.flight)
		y := &twin{t: t, w: o, m: &m, when: []string{"Of(Image()) behind " + fmt.Sprint(x.when)}}
		y.hold()
		seed := r.Int63()
		for _, z := range []*twin{x, y} {
			same := rand.New(rand.NewSource(seed))
			for j := range 40 {
				someStep(same, z, fmt.Sprint("z", j))
			}
		}
		if !sameImage(x.w.Image(), o.Image()) || x.w.Online() != o.Online() {
			t.Fatalf("P12.10: life %d: %s; %s", i, drawn(x.w.Image()), drawn(o.Image()))
		}
	}
}
