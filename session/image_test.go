package session_test

import (
	"fmt"
	"math"
	"strings"
	"testing"

	"crier/api"
	"crier/session"
)

// roomyConfig: a setup with room for all that the images here have.
var roomyConfig = api.Config{Window: 9, Queue: 9, Subs: 9}

// refuse holds an error of From, and that no session comes with it.
func refuse(t *testing.T, why string, im api.Session, c api.Config, want api.Errno) {
	t.Helper()
	if s, e := session.From(im, c); e != want || s != nil {
		t.Errorf("P13.2: %s: From(%s, %s): %t, %d; want %d", why, drawn(im), setup(c), s != nil, e, want)
	}
}

// full tells an image that has something of everything.
func full() api.Session {
	return api.Session{
		Client: "c",
		Subs:   []api.Ask{{Filter: "+/a", QoS: 2}, {Filter: "a/b", QoS: 1}, {Filter: "a.b"}},
		Window: api.Window{
			Last:   7,
			Flight: []api.Flight{{ID: 7, Msg: note("f", 1)}, {ID: 3, Released: true}, {ID: 65535, Msg: note("g", 2)}},
			Queue:  []api.Message{note("q", 2), note("r", 1)},
		},
		Inbox: []int{1, 7, 65535},
	}
}

func TestFrom(t *testing.T) {
	x := twinFrom(t, full(), roomyConfig)
	if x.s.Key() != "c" || !x.s.Lasting() || x.s.Online() {
		t.Errorf("P13.2: %q, %t, %t", x.s.Key(), x.s.Lasting(), x.s.Online())
	}
	if im := x.s.Image(); !sameImage(im, full()) {
		t.Errorf("P13.7: Image of From: %s", drawn(im))
	}
	x.hold()
	x.packets("P13.4", x.s.Up(), []api.Packet{
		dup(note("f", 1), 7), pubrel(3), dup(note("g", 2), 65535), publish(note("q", 2), 8), publish(note("r", 1), 9)})
	x.m.out.Up()
	x.hold()
	for _, id := range []int{1, 2, 7, 65535} {
		x.note(id)
		x.release(id)
	}
	for _, f := range []string{"a/b", "a.b", "c"} {
		x.subscribe(f, 2)
		x.unsubscribe(f)
	}
	x.hold()
	empty := twinFrom(t, api.Session{}, api.Config{})
	empty.hold()
	empty.up()
	empty.hold()
}

// TestFromAnyClient: a client's name isn't looked at.
func TestFromAnyClient(t *testing.T) {
	for _, name := range []string{"", "\x001", "\xFF", "a/#", strings.Repeat("c", 1<<17)} {
		im := full()
		im.Client = name
		x := twinFrom(t, im, roomyConfig)
		x.hold()
		if x.s.Key() != name {
			t.Errorf("P13.2: Key: %.20q; want %.20q", x.s.Key(), name)
		}
	}
}

func TestFromRefusesFilters(t *testing.T) {
	with := func(l ...api.Ask) api.Session {
		im := full()
		im.Subs = l
		return im
	}
	low, high := api.Ask{Filter: "!", QoS: 1}, api.Ask{Filter: "~", QoS: 1}
	wrong := func(a api.Ask, why string) {
		t.Helper()
		refuse(t, why, with(a), roomyConfig, 130)
		refuse(t, why, with(a, high), roomyConfig, 130)
		refuse(t, why, with(low, a), roomyConfig, 130)
		refuse(t, why, with(low, a, high), roomyConfig, 130)
	}
	for _, f := range noFilters() {
		for qos := range 3 {
			wrong(api.Ask{Filter: f, QoS: qos}, "no filter")
		}
	}
	for _, qos := range noQoS() {
		wrong(api.Ask{Filter: "a", QoS: qos}, "no quality")
	}
	l := inOrder()
	for i, a := range l {
		for j, b := range l {
			im := with(api.Ask{Filter: a, QoS: 1}, api.Ask{Filter: b, QoS: i % 3})
			if i < j {
				twinFrom(t, im, roomyConfig).hold()
			} else {
				refuse(t, "no order", im, roomyConfig, 130)
				im.Subs = append([]api.Ask{{Filter: "//"}}, im.Subs...)
				refuse(t, "no order", im, roomyConfig, 130)
			}
		}
	}
	refuse(t, "no order at last", with(low, api.Ask{Filter: "a"}, api.Ask{Filter: "c"}, api.Ask{Filter: "b"}), roomyConfig, 130)
	refuse(t, "twice, with others between", with(low, api.Ask{Filter: "a"}, high, low), roomyConfig, 130)
}

// TestFromRefusesMany: as many filters as the setup says are taken, one more isn't.
func TestFromRefusesMany(t *testing.T) {
	image := func(n int) api.Session {
		im := full()
		im.Subs = nil
		for i := range n {
			im.Subs = append(im.Subs, api.Ask{Filter: fmt.Sprintf("%05d", i), QoS: i % 3})
		}
		return im
	}
	for most, may := range map[int]int{math.MinInt: 0, -1: 0, 0: 0, 1: 1, 2: 2, 7: 7} {
		c := roomyConfig
		c.Subs = most
		x := twinFrom(t, image(may), c)
		x.hold()
		x.subscribe("z", 1)
		x.subscribe("00000", 1)
		x.unsubscribe("00000")
		x.subscribe("z", 1)
		x.hold()
		refuse(t, "too many", image(may+1), c, 130)
	}
	for _, most := range []int{maxSubs, maxSubs + 1, math.MaxInt} {
		c := roomyConfig
		c.Subs = most
		if s, e := session.From(image(maxSubs), c); e != api.OK || !sameImage(s.Image(), image(maxSubs)) || s.Subscribe(api.Ask{Filter: "z"}) != failed {
			t.Errorf("P13.2: MaxSubs of %d: %d", most, e)
		}
		refuse(t, "more than MaxSubs", image(maxSubs+1), c, 130)
	}
}

func TestFromRefusesNumbers(t *testing.T) {
	with := func(l ...int) api.Session {
		im := full()
		im.Inbox = l
		return im
	}
	for _, id := range noID() {
		refuse(t, "no number", with(id), roomyConfig, 130)
		refuse(t, "no number", with(id, 9), roomyConfig, 130)
		refuse(t, "no number", with(1, id), roomyConfig, 130)
		refuse(t, "no number", with(1, id, 65535), roomyConfig, 130)
	}
	for _, l := range [][]int{{1, 1}, {2, 1}, {65535, 65535}, {1, 2, 3, 3}, {1, 3, 2}, {5, 6, 5}, {65535, 1}} {
		refuse(t, "no rise", with(l...), roomyConfig, 130)
	}
	var all []int
	for id := 1; id <= maxID; id++ {
		all = append(all, id)
	}
	for _, l := range [][]int{nil, {1}, {65535}, {1, 2}, {1, 65535}, {65534, 65535}} {
		x := twinFrom(t, with(l...), roomyConfig)
		x.hold()
		for _, id := range []int{1, 2, 65534, 65535} {
			x.note(id)
		}
		x.hold()
	}
	s, e := session.From(with(all...), roomyConfig)
	if e != api.OK || !sameImage(s.Image(), with(all...)) || s.Note(77) || !s.Release(77) || !s.Note(77) {
		t.Errorf("P13.2: all numbers: %d", e)
	}
	refuse(t, "one more than all numbers", with(append(all, maxID+1)...), roomyConfig, 130)
}

// TestFromRefusesWindows: window.Of's errors, as they are, by the setup's bounds; behind all others.
func TestFromRefusesWindows(t *testing.T) {
	form := []func(w *api.Window){
		func(w *api.Window) { w.Last = -1 },
		func(w *api.Window) { w.Last = 65536 },
		func(w *api.Window) { w.Flight[0].ID = 0 },
		func(w *api.Window) { w.Flight[2].ID = 7 },
		func(w *api.Window) { w.Flight[1].Msg = note("a", 2) },
		func(w *api.Window) { w.Flight[0].Msg.QoS = 0 },
		func(w *api.Window) { w.Queue[1].QoS = 3 },
	}
	wrong := []func(s *api.Session){
		func(s *api.Session) {},
		func(s *api.Session) { s.Subs[0].Filter = "a#" },
		func(s *api.Session) { s.Subs[2].QoS = 3 },
		func(s *api.Session) { s.Subs[2].Filter = "a/b" },
		func(s *api.Session) { s.Subs = append(s.Subs, make([]api.Ask, 9)...) },
		func(s *api.Session) { s.Inbox[2] = 65536 },
		func(s *api.Session) { s.Inbox[1] = 1 },
	}
	for i, bend := range wrong {
		pick := func(of api.Errno) api.Errno {
			if i > 0 {
				return 130
			}
			return of
		}
		for _, bendWindow := range form {
			im := full()
			bendWindow(&im.Window)
			bend(&im)
			refuse(t, "no window", im, roomyConfig, pick(120))
			refuse(t, "no window, and too much in it", im, api.Config{Subs: 9, Window: 1}, pick(120))
		}
		im := full()
		bend(&im)
		refuse(t, "too much under way", im, api.Config{Subs: 9, Window: 2, Queue: 2}, pick(121))
		refuse(t, "too much waits", im, api.Config{Subs: 9, Window: 3, Queue: 1}, pick(121))
		refuse(t, "too much waits", im, api.Config{Subs: 9, Window: 3, Queue: -1}, pick(121))
	}
	twinFrom(t, full(), api.Config{Subs: 3, Window: 3, Queue: 2}).hold()
	refuse(t, "an empty setup", api.Session{Window: api.Window{Queue: []api.Message{note("q", 1)}}}, api.Config{}, 121)
	twinFrom(t, api.Session{Window: api.Window{Flight: []api.Flight{{ID: 1, Msg: note("f", 1)}}}}, api.Config{}).hold()
}

// TestImageOfAClean: an image is told of a session that isn't lasting, too; From makes a lasting one of it.
func TestImageOfAClean(t *testing.T) {
	x := newTwin(t, "k", false, roomyConfig)
	x.subscribe("b", 1)
	x.subscribe("a", 0)
	x.up()
	x.deliver(note("m", 2))
	x.note(9)
	x.note(2)
	x.hold()
	y := twinFrom(t, x.s.Image(), roomyConfig)
	y.hold()
	if !y.s.Lasting() || y.s.Online() || x.s.Lasting() || !x.s.Online() {
		t.Error("P13.2: From makes a lasting session, offline, and leaves the other one")
	}
}
