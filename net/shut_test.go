package net_test

import (
	"testing"

	"crier/api"
)

// shut tells a place in which the link of the client 0, which is up, was shut: of silence, with two messages of quality 0 on its line out, each of 6 bytes, and with something on its line in.
func shut(t *testing.T) *place {
	t.Helper()
	p := newPlace(t, wide(), alive(who("a"), 2), who("b"))
	p.goes(up(0), up(1), rest(), subscribe(0, ask("t", 1)), rest())
	p.goes(publish(1, msg("t", "x", 0)), publish(1, msg("t", "y", 0)), in(1, all), publish(0, msg("u", "mine", 1)))
	p.goes(tick(), tick(), tick())
	p.stands(0, api.State{Phase: api.PhaseUp, Under: 1}, api.Link{Up: true, In: 13, Out: 12})
	p.goes(tick())
	p.stands(0, api.State{Phase: api.PhaseUp, Under: 1}, api.Link{Up: true, Shut: true, Out: 12})
	return p
}

// TestShutOut: the line out of a link that is shut still carries, and with its last byte the link is gone (P18.2).
func TestShutOut(t *testing.T) {
	p := shut(t)
	link := api.Link{Up: true, Shut: true, Out: 12}
	for link.Out > 1 {
		p.goes(out(0, 1))
		link.Out--
		p.stands(0, api.State{Phase: api.PhaseUp, Under: 1}, link)
		p.goes(out(0, 0), in(0, all), out(0, -1))
		p.stands(0, api.State{Phase: api.PhaseUp, Under: 1}, link)
	}
	p.got(0, "t=x q0")
	p.goes(out(0, 1))
	p.got(0, "t=x q0, t=y q0")
	p.stands(0, api.State{Under: 1}, api.Link{})
	p.refuses(api.ErrNetLink, out(0, 1))
	p.goes(up(0), rest())
	p.stands(0, api.State{Phase: api.PhaseUp, Present: true}, api.Link{Up: true})
}

// TestShutSays: a client whose link is shut doesn't know of it; what it says is lost.
func TestShutSays(t *testing.T) {
	p := shut(t)
	link := api.Link{Up: true, Shut: true, Out: 12}
	p.refuses(api.ErrClientUp, up(0))
	p.goes(publish(0, msg("t", "lost", 0)), publish(0, msg("t", "z", 1)), publish(0, msg("t", "w", 2)), subscribe(0, ask("#", 2)), unsubscribe(0, "t"))
	p.refuses(api.ErrClientFilter, subscribe(0))
	p.stands(0, api.State{Phase: api.PhaseUp, Under: 2, Waiting: 1, Open: 2}, link)
	p.goes(tick(), tick(), tick(), in(0, all))
	p.stands(0, api.State{Phase: api.PhaseUp, Under: 2, Waiting: 1, Open: 2}, link)
	if w := windowOf(t, p, "a"); len(w.Flight)+len(w.Queue) > 0 {
		t.Errorf("P18.2: %+v", w)
	}
	p.goes(rest())
	p.stands(0, api.State{Under: 2, Waiting: 1}, api.Link{})
	p.goes(up(0), rest())
	p.stands(0, api.State{Phase: api.PhaseUp, Present: true}, api.Link{Up: true})
	p.got(0, "t=x q0, t=y q0, t=z q1, t=w q1")
}

// TestShutAnswers: what the client answers to what comes on a link that is shut is lost.
func TestShutAnswers(t *testing.T) {
	p := newPlace(t, wide(), alive(who("a"), 1), who("b"))
	p.goes(up(0), up(1), rest(), subscribe(0, ask("t", 1)), rest(), publish(1, msg("t", "x", 1)), publish(1, msg("t", "y", 1)), in(1, all), tick(), tick())
	p.stands(0, isUp(), api.Link{Up: true, Shut: true, Out: 16})
	p.goes(out(0, 8))
	p.stands(0, isUp(), api.Link{Up: true, Shut: true, Out: 8})
	p.goes(out(0, all))
	p.stands(0, api.State{}, api.Link{})
	p.got(0, "t=x q1, t=y q1")
	p.goes(up(0), rest())
	p.got(0, "t=x q1, t=y q1, t=x q1', t=y q1'")
}

// TestShutEnds: a link that is shut may be cut, fade, be left, and go with the broker: what is on it is lost.
func TestShutEnds(t *testing.T) {
	for _, m := range []api.Move{cut(0), fade(0), leave(0), reboot()} {
		p := shut(t)
		p.goes(m)
		p.stands(0, api.State{Under: 1}, api.Link{})
		p.got(0, "")
		if m.Kind == api.MoveReboot {
			p.goes(up(1))
		}
		p.goes(publish(1, msg("t", "z", 1)), rest(), up(0), rest())
		p.stands(0, api.State{Phase: api.PhaseUp, Present: true}, api.Link{Up: true})
		p.got(0, "t=z q1")
	}
}

// TestShutAtOnce: with nothing on its line out a link is gone as soon as it is closed, and what is on its line in is lost.
func TestShutAtOnce(t *testing.T) {
	p := newPlace(t, wide(), alive(who("a"), 1), who("b"))
	p.goes(up(0), up(1), rest(), subscribe(0, ask("t", 1)), rest(), publish(0, msg("t", "x", 1)), tick())
	p.stands(0, api.State{Phase: api.PhaseUp, Under: 1}, api.Link{Up: true, In: 10})
	p.goes(tick())
	p.stands(0, api.State{Under: 1}, api.Link{})
	p.goes(up(0), rest())
	p.got(0, "t=x q1")
	p.goes(publish(1, msg("t", string(make([]byte, 1000)), 1)), in(1, all))
	p.stands(1, api.State{Under: 1}, api.Link{})
}

// TestRefused: the Connack that refuses comes, though the link is shut; its client is down by its own doing then.
func TestRefused(t *testing.T) {
	c := wide()
	c.Sessions = 1
	p := newPlace(t, c, who("a"), clean(who("b")))
	p.goes(up(0), rest(), up(1), in(1, 14))
	p.stands(1, api.State{Phase: api.PhaseAsking}, api.Link{Up: true, In: 1})
	p.goes(in(1, 1))
	p.stands(1, api.State{Phase: api.PhaseAsking}, api.Link{Up: true, Shut: true, Out: 4})
	p.refuses(api.ErrClientDown, leave(1))
	p.refuses(api.ErrClientUp, up(1))
	p.refuses(api.ErrClientDown, publish(1, msg("t", "", 1)))
	p.goes(out(1, 3), tick(), in(1, all))
	p.stands(1, api.State{Phase: api.PhaseAsking}, api.Link{Up: true, Shut: true, Out: 1})
	p.goes(out(1, 1))
	p.stands(1, api.State{Code: api.Unavailable}, api.Link{})
	p.goes(up(1), in(1, all), cut(1))
	p.stands(1, api.State{Code: api.Unavailable}, api.Link{})
	p.stands(0, isUp(), api.Link{Up: true})
	if l := p.x.Image().Sessions; len(l) != 1 {
		t.Errorf("P18.4: %+v", l)
	}
}

// TestReplaced: a client that comes back ends the connection that faded, which has no link.
func TestReplaced(t *testing.T) {
	p := newPlace(t, wide(), who("a"), clean(who("b")))
	p.goes(up(0), up(1), rest(), fade(0), fade(1), up(0), up(1), rest())
	p.stands(0, api.State{Phase: api.PhaseUp, Present: true}, api.Link{Up: true})
	p.stands(1, isUp(), api.Link{Up: true})
	for i := range 2 {
		p.open(i)
	}
}

// open: the connection of a client that is up, and not shut, is open (P18.6): what it says is answered.
func (p *place) open(client int) {
	p.t.Helper()
	s, l := p.x.State(client)
	if s.Phase != api.PhaseUp || l.Shut {
		return
	}
	p.goes(publish(client, msg("$open", "", 1)), rest())
	if t, l := p.x.State(client); t.Phase != api.PhaseUp || t.Under+t.Waiting > 0 || l != (api.Link{Up: true}) {
		p.fault("P18.6", "client %d: %+v %+v, and then %+v", client, s, l, t)
	}
}
