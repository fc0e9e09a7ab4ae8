package net_test

import (
	"fmt"
	"strings"
	"testing"

	"crier/api"
)

// TestLeave: all that it said comes to the broker, the Disconnect last; what is on the line out is lost.
func TestLeave(t *testing.T) {
	p := busy(t)
	p.goes(leave(0))
	p.stands(0, api.State{}, api.Link{})
	p.stands(1, isUp(), api.Link{Up: true, Out: 9})
	p.goes(rest())
	p.got(0, "")
	p.got(1, "u=mine q0")
	p.goes(publish(1, msg("t", "x", 1)), rest())
	if w := windowOf(t, p, "a"); len(w.Flight) != 0 || len(w.Queue) != 1 {
		t.Errorf("P18.3: the broker doesn't know: %+v", w)
	}
	p.refuses(api.ErrNetLink, leave(0))
	p.goes(up(0), rest(), leave(0))
	p.got(0, "t=x q1")
	p.stands(0, api.State{Present: true}, api.Link{})
}

// TestLeaveBroken: a packet ahead of its Disconnect ends the connection.
func TestLeaveBroken(t *testing.T) {
	c := wide()
	c.Most = 20
	for _, bytes := range []bool{false, true} {
		p := newPlace(t, c, who("a"), who("b"))
		p.goes(up(0), up(1), rest(), subscribe(0, ask("t", 1)), subscribe(1, ask("u", 1)), rest())
		p.goes(publish(0, msg("u", "long, longer, longest", 1)), publish(0, msg("u", "behind it", 0)))
		if bytes {
			p.goes(publish(1, msg("t", "x", 1)), in(1, all))
		}
		p.goes(leave(0))
		p.stands(0, api.State{Under: 1}, api.Link{})
		p.goes(rest())
		p.got(0, "")
		p.got(1, "")
		if w := windowOf(t, p, "a"); bytes != (len(w.Flight) == 1) {
			t.Errorf("P18.3: %+v", w)
		}
	}
}

// TestSaid: what a client says is laid; without a link, or ahead of the Connack, it has nothing to say.
func TestSaid(t *testing.T) {
	p := newPlace(t, wide(), who("a"))
	p.goes(publish(0, msg("t", "x", 1)))
	p.stands(0, api.State{Waiting: 1}, api.Link{})
	p.goes(up(0), publish(0, msg("t", "y", 2)))
	p.stands(0, api.State{Phase: api.PhaseAsking, Waiting: 2}, api.Link{Up: true, In: 15})
	p.goes(in(0, all), out(0, all))
	p.stands(0, api.State{Phase: api.PhaseUp, Under: 2}, api.Link{Up: true, In: 16})
	p.goes(publish(0, msg("t", "z", 1)))
	p.stands(0, api.State{Phase: api.PhaseUp, Under: 2, Waiting: 1}, api.Link{Up: true, In: 16})
	p.goes(publish(0, msg("t", "w", 0)))
	p.stands(0, api.State{Phase: api.PhaseUp, Under: 2, Waiting: 1}, api.Link{Up: true, In: 22})
	p.goes(subscribe(0, ask("t", 2), ask("u", 0)))
	p.stands(0, api.State{Phase: api.PhaseUp, Under: 2, Waiting: 1, Open: 1}, api.Link{Up: true, In: 34})
	p.goes(unsubscribe(0, "u"))
	p.stands(0, api.State{Phase: api.PhaseUp, Under: 2, Waiting: 1, Open: 2}, api.Link{Up: true, In: 41})
	p.goes(rest())
	p.stands(0, isUp(), api.Link{Up: true})
	p.got(0, "t=z q1")
	if im := p.x.Image(); len(im.Sessions) != 1 || fmt.Sprint(im.Sessions[0].Subs) != "[{t 2}]" {
		t.Errorf("P18.3: %+v", im)
	}
}

// TestTick: the broker's second, and the clients', each by its own keep-alive; not of those that are down.
func TestTick(t *testing.T) {
	p := newPlace(t, wide(), alive(who("a"), 2), alive(who("b"), 3), who("c"), alive(who("d"), 1))
	p.goes(up(0), up(1), up(2), rest(), tick())
	for i := range 3 {
		p.stands(i, isUp(), api.Link{Up: true})
	}
	p.goes(tick())
	p.stands(0, isUp(), api.Link{Up: true, In: 2})
	p.stands(1, isUp(), api.Link{Up: true})
	p.goes(rest(), tick())
	p.stands(0, isUp(), api.Link{Up: true})
	p.stands(1, isUp(), api.Link{Up: true, In: 2})
	p.stands(2, isUp(), api.Link{Up: true})
	p.stands(3, api.State{}, api.Link{})
	p.goes(tick(), tick()) // the third second behind a's last packet, the fifth behind b's
	p.stands(0, isUp(), api.Link{Up: true, In: 2})
	p.stands(1, api.State{}, api.Link{})
	p.goes(tick())
	p.stands(0, api.State{}, api.Link{})
	p.stands(2, isUp(), api.Link{Up: true})
}

// TestAlive: a link that carries is never late.
func TestAlive(t *testing.T) {
	p := newPlace(t, wide(), alive(who("a"), 1), alive(who("b"), 5), clean(alive(who(""), 2)))
	p.goes(up(0), up(1), up(2), rest())
	for range 40 {
		p.goes(tick(), rest())
		for i := range 3 {
			p.stands(i, isUp(), api.Link{Up: true})
		}
	}
}

// TestPatience: a link whose Connect doesn't come to the broker.
func TestPatience(t *testing.T) {
	c := wide()
	c.Patience = 2
	p := newPlace(t, c, alive(who("a"), 1), who("b"))
	p.goes(up(0), up(1), in(1, all), tick(), tick())
	p.stands(0, api.State{Phase: api.PhaseAsking}, api.Link{Up: true, In: 15})
	p.goes(tick())
	p.stands(0, api.State{}, api.Link{})
	p.stands(1, api.State{Phase: api.PhaseAsking}, api.Link{Up: true, Out: 4})
}

// TestReboot: all links are gone, and faded connections; what outlives the broker stays, and so does its setup.
func TestReboot(t *testing.T) {
	p := newPlace(t, wide(), who("a"), who("b"), clean(who("c")), who("d"), clean(who("")))
	p.goes(up(0), up(1), up(2), up(4), rest(), subscribe(0, ask("t", 2)), subscribe(2, ask("t", 2)), rest(), up(3))
	kept := msg("k", "kept", 1)
	kept.Retain = true
	p.goes(publish(1, kept), publish(1, msg("t", "x", 2)), in(1, all), publish(1, msg("t", "y", 1)), fade(2))
	p.stands(0, isUp(), api.Link{Up: true, Out: 8})
	p.stands(1, api.State{Phase: api.PhaseUp, Under: 2, Waiting: 1}, api.Link{Up: true, Out: 8})
	p.goes(reboot())
	p.stands(1, api.State{Under: 2, Waiting: 1}, api.Link{})
	for _, i := range []int{0, 2, 3, 4} {
		p.stands(i, api.State{}, api.Link{})
	}
	im := p.x.Image()
	if len(im.Sessions) != 2 || im.Autos != 1 || len(im.Retained) != 1 || len(im.Sessions[0].Window.Flight) != 1 || len(im.Sessions[1].Inbox) != 1 {
		t.Errorf("P18.3: %+v", im)
	}
	p.goes(rest(), reboot(), tick())
	p.goes(up(0), up(1), up(2), up(3), up(4), rest())
	p.got(0, "t=x q2', t=y q1")
	p.got(2, "")
	for i, present := range []bool{true, true, false, false, false} {
		p.stands(i, api.State{Phase: api.PhaseUp, Present: present}, api.Link{Up: true})
	}
	p.goes(subscribe(4, ask("#", 0)), rest())
	p.got(4, "k=kept q0r")
	if im := p.x.Image(); im.Autos != 2 || len(im.Sessions) != 3 {
		t.Errorf("P18.3: %+v", im)
	}
}

// TestSetup: the broker is of the setup, ahead of a reboot and behind it.
func TestSetup(t *testing.T) {
	for name, c := range map[string]struct {
		change func(c *api.Config)
		holds  func(p *place)
	}{
		"Users": {func(c *api.Config) { c.Users = []api.User{{Name: "u", Word: "w"}} }, func(p *place) {
			p.goes(up(0), in(0, all))
			p.stands(0, api.State{Phase: api.PhaseAsking, Code: p.code(0)}, api.Link{Up: true, Shut: true, Out: 4})
			p.goes(out(0, all))
			p.stands(0, api.State{Code: api.BadUser}, api.Link{})
		}},
		"Sessions": {func(c *api.Config) { c.Sessions = 1 }, func(p *place) {
			p.goes(up(0), rest(), up(1), rest())
			p.stands(1, api.State{Code: api.Unavailable}, api.Link{})
			p.goes(cut(0))
		}},
		"Patience": {func(c *api.Config) { c.Patience = 1 }, func(p *place) {
			p.goes(up(1), tick(), tick())
			p.stands(1, api.State{}, api.Link{})
		}},
		"Most": {func(c *api.Config) { c.Most = 13 }, func(p *place) {
			p.goes(up(0), rest(), publish(0, msg("t", "12345678901", 0)), rest())
			if s, _ := p.x.State(0); s.Phase != api.PhaseDown {
				p.fault("P18.1", "a packet longer than Most: %+v", s)
			}
			p.goes(up(0), rest(), publish(0, msg("t", "1234567890", 0)), rest())
			if s, _ := p.x.State(0); s.Phase != api.PhaseUp {
				p.fault("P18.1", "a packet as long as Most: %+v", s)
			}
			p.goes(cut(0))
		}},
		"Subs": {func(c *api.Config) { c.Subs = 1 }, func(p *place) {
			p.goes(up(1), rest(), subscribe(1, ask("t", 1), ask("u", 1)), rest())
			if l := p.x.Image().Sessions; len(l[len(l)-1].Subs) != 1 {
				p.fault("P18.1", "Subs: %+v", l)
			}
			p.goes(cut(1))
		}},
		"Retained": {func(c *api.Config) { c.Retained = 1 }, func(p *place) {
			a, b := msg("a", "x", 0), msg("b", "x", 0)
			a.Retain, b.Retain = true, true
			p.goes(up(0), rest(), publish(0, a), publish(0, b), rest(), cut(0))
			if l := p.x.Image().Retained; len(l) != 1 || l[0].Topic != "a" {
				p.fault("P18.1", "Retained: %+v", l)
			}
		}},
		"Window and Queue": {func(c *api.Config) { c.Window, c.Queue = 1, 2 }, func(p *place) {
			p.goes(up(0), rest(), subscribe(0, ask("t", 1)), rest(), fade(0), up(1), rest())
			for range 4 {
				p.goes(publish(1, msg("t", "x", 1)), rest())
			}
			if w := p.x.Image().Sessions[0].Window; len(w.Flight) != 1 || len(w.Queue) != 2 {
				p.fault("P18.1", "%+v", w)
			}
			p.goes(cut(1), up(0), rest(), cut(0))
		}},
	} {
		setup := wide()
		c.change(&setup)
		t.Run(name, func(t *testing.T) {
			p := newPlace(t, setup, who("a"), who("b"))
			c.holds(p)
			p.goes(reboot())
			c.holds(p)
			p.goes(reboot(), reboot())
			c.holds(p)
		})
	}
}

// code tells what a client's last Connack said.
func (p *place) code(client int) int {
	s, _ := p.x.State(client)
	return s.Code
}

// TestRest: it goes on till nothing is on the way, however often that takes, and leaves alone who is down.
func TestRest(t *testing.T) {
	p := newPlace(t, wide(), who("a"), who("b"), who("c"))
	p.goes(rest())
	p.goes(up(2), up(0), rest(), subscribe(0, ask("t", 2)), rest())
	want := []string{}
	for i := range 50 {
		p.goes(publish(2, msg("t", fmt.Sprint(i), 2)), publish(0, msg("t", fmt.Sprint(i), 1)))
	}
	p.goes(rest(), rest())
	p.rests()
	for i, x := range p.x.Got(0) {
		want = append(want, string(x.Msg.Payload))
		if i > 100 {
			break
		}
	}
	if len(want) != 100 {
		t.Errorf("P18.5: %d were told: %s", len(want), strings.Join(want, " "))
	}
	p.stands(0, isUp(), api.Link{Up: true})
	p.stands(1, api.State{}, api.Link{})
	p.stands(2, isUp(), api.Link{Up: true})
}

// TestRestRefused: what is shut is carried, too, and is gone then.
func TestRestRefused(t *testing.T) {
	c := wide()
	c.Users = []api.User{{}}
	p := newPlace(t, c, who("a"), clean(who("")), who("b"))
	p.goes(up(0), up(1), in(1, all), up(2), in(2, all), out(2, 3))
	p.stands(1, api.State{Phase: api.PhaseAsking}, api.Link{Up: true, Shut: true, Out: 4})
	p.stands(2, api.State{Phase: api.PhaseAsking}, api.Link{Up: true, Shut: true, Out: 1})
	p.goes(rest())
	for i := range 3 {
		p.stands(i, api.State{Code: api.BadUser}, api.Link{})
	}
}
