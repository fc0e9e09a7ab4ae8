package broker_test

import (
	"fmt"
	"math"
	"math/rand"
	"testing"

	"crier/api"
	"crier/broker"
	"crier/image"
)

// sample: an image in which everything stands.
func sample() api.Image {
	return api.Image{
		Autos: 3,
		Sessions: []api.Session{
			{Client: "A"},
			{
				Client: "a",
				Subs:   []api.Ask{ask("#", 0), ask("a/b", 2), ask("b", 1)},
				Window: api.Window{
					Last:   7,
					Flight: []api.Flight{{ID: 6, Msg: msg("a/b", "6", 1)}, {ID: 3, Released: true}, {ID: 65535, Msg: retained("b", "7", 2)}},
					Queue:  []api.Message{msg("b", "8", 1), retained("b", "", 2)},
				},
				Inbox: []int{1, 9, 65535},
			},
			{Client: "b", Subs: []api.Ask{ask("a/+", 1)}},
		},
		Retained: []api.Message{retained("a", "1", 0), retained("a/b", "2", 2), retained("b", "3", 1)},
	}
}

// exact: a setup of which the sample needs all.
func exact() api.Config {
	return api.Config{Window: 3, Queue: 2, Subs: 3, Retained: 3, Sessions: 3, Most: 1000}
}

// TestFrom: what the image holds is there, and nobody is online.
func TestFrom(t *testing.T) {
	for _, v := range variants(exact()) {
		b, e := broker.From(v.c, sample())
		if b == nil || e != api.OK {
			t.Fatalf("P16.7: %d", e)
		}
		if im := b.Image(); !image.Same(im, sample()) {
			t.Errorf("P16.9: %s", imageText(im))
		}
		wants := func(e api.Event, want string) {
			t.Helper()
			if got := told(b.Do(e)); got != want {
				t.Errorf("P16.7, by %s: %s; want %s", v.name, got, want)
			}
		}
		for n := range 3 {
			wants(data(n, "\xF0"), "")
		}
		wants(opens(0), "")
		wants(data(0, encoded(t, hello("c"))), "0 connack 3; 0 closed")
		wants(opens(0), "")
		wants(data(0, encoded(t, hello("b"))), "0 connack 0 present")
		wants(data(0, encoded(t, publish(msg("a/b", "new", 1), 1))), "0 publish a/b=new q1 #1; 0 puback #1")
		wants(opens(1), "")
		wants(data(1, encoded(t, hello("a"))), "1 connack 0 present; 1 publish a/b=6 q1 #6 dup; 1 pubrel #3; 1 publish b=7 q2 #65535 dup retain")
		wants(data(1, encoded(t, kind(api.Pubcomp, 3))), "1 publish b=8 q1 #8")
		wants(data(1, encoded(t, kind(api.Puback, 6))), "1 publish b= q2 #9 retain")
		wants(data(1, encoded(t, kind(api.Puback, 8))), "") // the new one was lost: two waited
		wants(data(1, encoded(t, publish(msg("x", "", 2), 9), publish(msg("x", "y", 2), 8))), "1 pubrec #9; 1 publish x=y q0 #0; 1 pubrec #8")
		wants(data(1, encoded(t, subscribe(5, ask("b", 1), ask("c", 0)))), "1 suback #5 [1 128]; 1 publish b=3 q1 #10 retain")
		wants(data(0, encoded(t, publish(retained("c", "no room", 0), 0))), "1 publish c=no room q0 #0")
		wants(opens(2), "")
		wants(data(2, encoded(t, clean("A"))), "2 connack 0")
		wants(data(2, encoded(t, kind(api.Disconnect, 0))), "2 closed")
		wants(opens(2), "")
		wants(data(2, encoded(t, clean(""))), "2 connack 0")
		if im := b.Image(); im.Autos != 4 || len(im.Sessions) != 2 || len(im.Retained) != 3 {
			t.Errorf("P16.6, by %s: %s", v.name, imageText(im))
		}
	}
}

// refused holds that From answers just an error.
func refused(t *testing.T, what string, c api.Config, im api.Image, want api.Errno) {
	t.Helper()
	for _, list := range []bool{false, true} {
		c.List = list
		if b, e := broker.From(c, im); b != nil || e != want {
			t.Errorf("P16.7: %s: %d; want %d", what, e, want)
		}
	}
}

// TestFromTooMuch: one of everything more than the setup allows.
func TestFromTooMuch(t *testing.T) {
	for what, less := range map[string]func(c *api.Config){
		"sessions": func(c *api.Config) { c.Sessions-- },
		"retained": func(c *api.Config) { c.Retained-- },
		"filters":  func(c *api.Config) { c.Subs-- },
		"window":   func(c *api.Config) { c.Window-- },
		"queue":    func(c *api.Config) { c.Queue-- },
		"none":     func(c *api.Config) { c.Sessions = math.MinInt },
		"no kept":  func(c *api.Config) { c.Retained = math.MinInt },
		"no subs":  func(c *api.Config) { c.Subs = math.MinInt },
		"no room":  func(c *api.Config) { c.Window = math.MinInt },
		"no queue": func(c *api.Config) { c.Queue = math.MinInt },
	} {
		c := exact()
		less(&c)
		refused(t, what, c, sample(), 160)
	}
	for what, more := range map[string]func(im *api.Image){
		"sessions": func(im *api.Image) { im.Sessions = append(im.Sessions, api.Session{Client: "c"}) },
		"retained": func(im *api.Image) { im.Retained = append(im.Retained, retained("c", "x", 0)) },
		"filters":  func(im *api.Image) { im.Sessions[1].Subs = append(im.Sessions[1].Subs, ask("c", 0)) },
		"flights": func(im *api.Image) {
			w := &im.Sessions[1].Window
			w.Flight = append(w.Flight, api.Flight{ID: 1, Msg: msg("a", "", 1)})
		},
		"queue": func(im *api.Image) {
			w := &im.Sessions[1].Window
			w.Queue = append(w.Queue, msg("a", "", 1))
		},
	} {
		im := sample()
		more(&im)
		refused(t, what, exact(), im, 160)
		// A setup beyond all bounds allows it.
		c := api.Config{Window: math.MaxInt, Queue: math.MaxInt, Subs: math.MaxInt, Retained: math.MaxInt, Sessions: math.MaxInt}
		if b, e := broker.From(c, im); b == nil || e != api.OK || !image.Same(b.Image(), im) {
			t.Errorf("P16.7: %s, in a great setup: %d", what, e)
		}
	}
	for what, im := range map[string]api.Image{
		"one retained":  {Retained: []api.Message{retained("a", "x", 0)}},
		"one filter":    {Sessions: []api.Session{{Client: "a", Subs: []api.Ask{ask("a", 0)}}}},
		"one waits":     {Sessions: []api.Session{{Client: "a", Window: api.Window{Queue: []api.Message{msg("a", "", 1)}}}}},
		"two under way": {Sessions: []api.Session{{Client: "a", Window: api.Window{Flight: []api.Flight{{ID: 1, Released: true}, {ID: 2, Released: true}}}}}},
		"two sessions":  {Sessions: []api.Session{{Client: "a"}, {Client: "b"}}},
	} {
		refused(t, what, api.Config{}, im, 160)
		refused(t, what, api.Config{Window: -1, Queue: -1, Subs: -1, Retained: -1, Sessions: -1}, im, 160)
	}
	one := api.Image{Sessions: []api.Session{{Client: "a", Window: api.Window{Flight: []api.Flight{{ID: 1, Released: true}}}}}}
	if b, e := broker.From(api.Config{}, one); b == nil || e != api.OK {
		t.Errorf("P16.7: a window of 0 counts as 1, and so do sessions: %d", e)
	}
}

// TestFromWrong: what can't be an image; its error comes ahead of the setup's.
func TestFromWrong(t *testing.T) {
	for what, x := range map[string]struct {
		bend func(im *api.Image)
		want api.Errno
	}{
		"autos":          {func(im *api.Image) { im.Autos = -1 }, 157},
		"autos, many":    {func(im *api.Image) { im.Autos = api.MaxAutos + 1 }, 157},
		"no name":        {func(im *api.Image) { im.Sessions[0].Client = "" }, 152},
		"a key":          {func(im *api.Image) { im.Sessions[0].Client = "\x001" }, 152},
		"order":          {func(im *api.Image) { im.Sessions[0].Client = "a" }, 152},
		"no filter":      {func(im *api.Image) { im.Sessions[1].Subs[0].Filter = "a#" }, 153},
		"filters' order": {func(im *api.Image) { im.Sessions[1].Subs[0].Filter = "b" }, 153},
		"no quality":     {func(im *api.Image) { im.Sessions[1].Subs[0].QoS = 3 }, 153},
		"last":           {func(im *api.Image) { im.Sessions[1].Window.Last = 65536 }, 154},
		"a flight's ID":  {func(im *api.Image) { im.Sessions[1].Window.Flight[0].ID = 3 }, 154},
		"a flight's QoS": {func(im *api.Image) { im.Sessions[1].Window.Flight[0].Msg.QoS = 0 }, 154},
		"a topic":        {func(im *api.Image) { im.Sessions[1].Window.Queue[0].Topic = "+" }, 154},
		"inbox":          {func(im *api.Image) { im.Sessions[1].Inbox[0] = 9 }, 155},
		"no payload":     {func(im *api.Image) { im.Retained[0].Payload = nil }, 156},
		"no mark":        {func(im *api.Image) { im.Retained[1].Retain = false }, 156},
		"topics' order":  {func(im *api.Image) { im.Retained[2].Topic = "a" }, 156},
	} {
		im := sample()
		x.bend(&im)
		refused(t, what, exact(), im, x.want)
		refused(t, what+", and too much", api.Config{}, im, x.want)
	}
	im := api.Image{Sessions: make([]api.Session, 65537)}
	for i := range im.Sessions {
		im.Sessions[i].Client = fmt.Sprintf("%05d", i)
	}
	refused(t, "more sessions than there may ever be", exact(), im, 157)
}

// TestImage: lasting sessions by client, online or not; no clean ones, no connections, no wills.
func TestImage(t *testing.T) {
	d := newDesk(t, wide())
	d.comes("P16.6", 0, willed(hello("b"), retained("w", "x", 1)), "0 connack 0")
	d.comes("P16.6", 1, hello("a"), "1 connack 0")
	d.comes("P16.6", 2, clean("aa"), "2 connack 0")
	d.comes("P16.6", 3, clean(""), "3 connack 0")
	d.comes("P16.6", 4, hello("B"), "4 connack 0")
	d.wants("P16.6", closes(1), "")
	d.says("P16.6", 2, "2 suback #1 [2]", subscribe(1, ask("x", 2)))
	d.says("P16.6", 4, "4 suback #1 [0 2 1]", subscribe(1, ask("z", 0), ask("a/b", 2), ask("a!", 1)))
	d.says("P16.6", 3, "", publish(retained("z!", "1", 0), 0), publish(retained("y", "2", 0), 0), publish(retained("y/z", "3", 0), 0))
	want := api.Image{
		Autos:    1,
		Sessions: []api.Session{{Client: "B", Subs: []api.Ask{ask("a/b", 2), ask("a!", 1), ask("z", 0)}}, {Client: "a"}, {Client: "b"}},
		Retained: []api.Message{retained("y", "2", 0), retained("y/z", "3", 0), retained("z!", "1", 0)},
	}
	for _, v := range d.crew {
		if im := v.b.Image(); !image.Same(im, want) {
			t.Errorf("P16.6, by %s: %s", v.name, imageText(im))
		}
	}
}

// TestDrop: all connections are gone, without a word and without a will; clean sessions with them.
func TestDrop(t *testing.T) {
	d := newDesk(t, wide())
	d.up("a")
	d.says("P16.5", 0, "0 suback #1 [2]", subscribe(1, ask("#", 2)))
	p := willed(hello("b"), retained("w", "x", 1))
	p.KeepAlive = 1
	d.comes("P16.5", 1, p, "1 connack 0")
	d.comes("P16.5", 2, willed(clean("c"), retained("w", "x", 1)), "2 connack 0")
	d.says("P16.5", 2, "2 suback #1 [2]", subscribe(1, ask("#", 2)))
	d.comes("P16.5", 3, clean(""), "3 connack 0")
	d.wants("P16.5", opens(4), "")
	d.says("P16.5", 3, "0 publish t=x q1 #1; 2 publish t=x q1 #1; 3 puback #1", publish(msg("t", "x", 1), 1))
	d.wants("P16.5", data(3, "\xC0"), "")
	d.drop()
	d.drop()
	for n := range 5 {
		d.wants("P16.5: it isn't open", data(n, "\xF0"), "")
		d.wants("P16.5: it isn't open", closes(n), "")
	}
	for range 5 {
		d.wants("P16.5: nobody is late", tick(), "")
	}
	d.comes("P16.5: a fresh one of that number", 3, hello("d"), "3 connack 0")
	d.says("P16.5: lasting ones are offline", 3, "3 puback #1", publish(msg("t", "y", 1), 1))
	d.comes("P16.5", 1, hello("c"), "1 connack 0")
	d.comes("P16.5", 0, hello("a"), "0 connack 0 present; 0 publish t=x q1 #1 dup; 0 publish t=y q1 #2")
	d.comes("P16.5", 2, hello("b"), "2 connack 0 present")
}

// TestShapes: the tries' own, also behind all that goes.
func TestShapes(t *testing.T) {
	d := newDesk(t, wide())
	d.comes("P16.8", 1, hello("x"), "1 connack 0")
	d.comes("P16.8", 2, clean("y"), "2 connack 0")
	d.says("P16.8", 1, "1 suback #1 [1 0]", subscribe(1, ask("a/b/c", 1), ask("a/b/#", 0)))
	d.says("P16.8", 2, "2 suback #1 [2 0 0]", subscribe(1, ask("a/b/c", 2), ask("a", 0), ask("z", 0)))
	d.says("P16.8", 2, "2 publish z=1 q0 #0", publish(retained("z", "1", 0), 0), publish(retained("z/y/x", "1", 0), 0))
	for _, v := range d.crew {
		subs, kept := v.b.Shapes()
		want := api.Shape{Kids: []api.Shape{
			{Levels: []string{"a"}, Entries: []api.Entry{{Key: "y"}}, Kids: []api.Shape{
				{Levels: []string{"b"}, Kids: []api.Shape{
					{Levels: []string{"#"}, Entries: []api.Entry{{Key: "x"}}},
					{Levels: []string{"c"}, Entries: []api.Entry{{Key: "x", QoS: 1}, {Key: "y", QoS: 2}}},
				}},
			}},
			{Levels: []string{"z"}, Entries: []api.Entry{{Key: "y"}}},
		}}
		topics := api.Shape{Kids: []api.Shape{{Levels: []string{"z"}, Here: true, Kids: []api.Shape{{Levels: []string{"y", "x"}, Here: true}}}}}
		if v.c.List {
			want, topics = api.Shape{}, api.Shape{}
		}
		if fmt.Sprint(subs) != fmt.Sprint(want) || fmt.Sprint(kept) != fmt.Sprint(topics) {
			t.Errorf("P16.8, by %s: %+v, %+v", v.name, subs, kept)
		}
	}
	d.wants("P22.6", closes(2), "")
	d.comes("P22.6", 2, clean("x"), "1 closed; 2 connack 0")
	d.says("P22.6", 2, "", publish(retained("z", "", 0), 0), publish(retained("z/y/x", "", 0), 0))
	for _, v := range d.crew {
		if subs, kept := v.b.Shapes(); nodes(subs) != 1 || nodes(kept) != 1 {
			t.Errorf("P22.6, by %s: %+v, %+v", v.name, subs, kept)
		}
	}
}

// TestSecondLives: at any moment brokers are made from images, or from their bytes, and go on as the others do whose connections are gone (P22.10).
func TestSecondLives(t *testing.T) {
	r := rand.New(rand.NewSource(162))
	for range 150 {
		d := newDesk(t, someConfig(r))
		for range 8 {
			for range r.Intn(40) {
				someStep(r, d)
			}
			d.reborn()
		}
	}
}
