package net_test

import (
	"fmt"
	"math"
	"strings"
	"testing"

	"crier/api"
	"crier/net"
)

// TestNew: which clients can be together (P18.1).
func TestNew(t *testing.T) {
	many := func(n int, name func(i int) string) []api.Who {
		var l []api.Who
		for i := range n {
			l = append(l, clean(who(name(i))))
		}
		return l
	}
	none := func(int) string { return "" }
	numbered := func(i int) string { return fmt.Sprint(i) }
	long := strings.Repeat("n", api.MaxText)
	for name, c := range map[string]struct {
		l    []api.Who
		want api.Errno
	}{
		"none":                              {nil, api.OK},
		"one":                               {[]api.Who{who("a")}, api.OK},
		"two":                               {[]api.Who{who("a"), who("b")}, api.OK},
		"64":                                {many(64, numbered), api.OK},
		"65":                                {many(65, numbered), api.ErrNetClients},
		"64 without names":                  {many(64, none), api.OK},
		"65 without names":                  {many(65, none), api.ErrNetClients},
		"one name":                          {[]api.Who{who("a"), who("a")}, api.ErrNetClients},
		"one name, another one between":     {[]api.Who{who("a"), who("b"), who("a")}, api.ErrNetClients},
		"one name, clean":                   {[]api.Who{clean(who("a")), clean(who("a"))}, api.ErrNetClients},
		"one name, one of them clean":       {[]api.Who{who("a"), clean(who("a"))}, api.ErrNetClients},
		"one name, in other letters":        {[]api.Who{who("a"), who("A")}, api.OK},
		"one name, as its beginning":        {[]api.Who{who("a"), who("aa")}, api.OK},
		"one name behind two without":       {[]api.Who{clean(who("")), clean(who("")), who("a"), who("a")}, api.ErrNetClients},
		"lasting, no name":                  {[]api.Who{{}}, api.ErrNetClients},
		"lasting, no name, behind others":   {[]api.Who{who("a"), clean(who("")), {}}, api.ErrNetClients},
		"no text":                           {[]api.Who{who("\xFF")}, api.ErrNetClients},
		"no text, behind another one":       {[]api.Who{who("a"), clean(who("a\x00"))}, api.ErrNetClients},
		"a name as long as may be":          {[]api.Who{who(long)}, api.OK},
		"a name longer than may be":         {[]api.Who{who(long + "n")}, api.ErrNetClients},
		"a keep-alive and a window too far": {[]api.Who{{Name: "a", KeepAlive: -1, Window: 1 << 40}}, api.OK},
	} {
		x, e := net.New(api.Net{Config: wide(), Clients: c.l})
		if e != c.want || (x != nil) != (e == api.OK) {
			t.Errorf("P18.1: %s: %d; want %d", name, e, c.want)
			continue
		}
		if e != api.OK {
			continue
		}
		for i := -1; i <= len(c.l); i++ {
			if s, l := x.State(i); s != (api.State{}) || l != (api.Link{}) || len(x.Got(i)) > 0 {
				t.Errorf("P18.1: %s: State(%d): %+v %+v", name, i, s, l)
			}
		}
		if im := x.Image(); im.Autos != 0 || len(im.Sessions)+len(im.Retained) > 0 {
			t.Errorf("P18.1: %s: %+v", name, im)
		}
	}
}

// TestExamples: doc/18-net.md's.
func TestExamples(t *testing.T) {
	p := newPlace(t, api.Config{Window: 2, Queue: 9, Subs: 9, Retained: 9, Sessions: 9, Most: 1000}, who("a"), who("b"))
	p.goes(up(0), up(1), rest(), subscribe(0, ask("t", 2)), rest())
	p.goes(publish(1, msg("t", "x", 2)), in(1, 3), cut(1), up(1), rest())
	p.got(0, "t=x q2")
	p.goes(publish(1, msg("t", "y", 2)), in(1, all), out(0, all), cut(0), cut(1), reboot(), up(0), up(1), rest())
	p.got(0, "t=x q2, t=y q2")
	p.goes(fade(0), publish(1, msg("t", "z", 1)), rest(), up(0), rest())
	p.got(0, "t=x q2, t=y q2, t=z q1'")
	p.got(1, "")
	p.stands(0, api.State{Phase: api.PhaseUp, Present: true}, api.Link{Up: true})
	p.stands(1, api.State{Phase: api.PhaseUp, Present: true}, api.Link{Up: true})
}

// TestErrors: the error that is named first is the answer, and nothing has changed (P18.3).
func TestErrors(t *testing.T) {
	p := newPlace(t, wide(), who("a"), clean(who("")))
	p.goes(publish(0, msg("t", "x", 1)))
	for _, kind := range []int{math.MinInt, -1, 0, 13, 14, math.MaxInt} {
		for _, client := range []int{-1, 0, 2} {
			p.refuses(api.ErrNetMove, api.Move{Kind: kind, Client: client, N: 1})
		}
	}
	for kind := api.MoveUp; kind <= api.MoveOut; kind++ {
		for _, client := range []int{math.MinInt, -1, 2, 3, math.MaxInt} {
			p.refuses(api.ErrNetClient, api.Move{Kind: kind, Client: client, N: 1})
		}
	}
	for _, kind := range []int{api.MoveTick, api.MoveReboot, api.MoveRest} {
		for _, client := range []int{math.MinInt, -1, 2, math.MaxInt} {
			p.goes(api.Move{Kind: kind, Client: client})
		}
	}
	for _, kind := range []int{api.MoveCut, api.MoveFade, api.MoveLeave, api.MoveIn, api.MoveOut} {
		for client := range 2 {
			for _, n := range []int{0, 1} {
				p.refuses(api.ErrNetLink, api.Move{Kind: kind, Client: client, N: n})
			}
		}
	}
	p.refuses(api.ErrClientDown, publish(0, msg("t", "x", 0)))
	p.refuses(api.ErrClientDown, publish(1, msg("t", "x", 1)))
	p.refuses(api.ErrClientMessage, publish(1, msg("", "x", 1)))
	p.refuses(api.ErrClientDown, subscribe(0, ask("t", 1)))
	p.refuses(api.ErrClientDown, unsubscribe(0, "t"))
	p.stands(0, api.State{Waiting: 1}, api.Link{})
	p.stands(1, api.State{}, api.Link{})

	p.goes(up(0))
	asking := api.State{Phase: api.PhaseAsking, Waiting: 1}
	p.stands(0, asking, api.Link{Up: true, In: 15})
	p.refuses(api.ErrClientUp, up(0))
	p.refuses(api.ErrClientDown, leave(0))
	p.refuses(api.ErrClientDown, publish(0, msg("t", "x", 0)))
	p.refuses(api.ErrClientDown, subscribe(0))
	p.refuses(api.ErrClientDown, unsubscribe(0, "t"))
	p.stands(0, asking, api.Link{Up: true, In: 15})

	p.goes(rest())
	p.stands(0, isUp(), api.Link{Up: true})
	p.refuses(api.ErrClientUp, up(0))
	p.refuses(api.ErrClientMessage, publish(0, msg("t", "x", 3)))
	p.refuses(api.ErrClientFilter, subscribe(0))
	p.refuses(api.ErrClientFilter, subscribe(0, ask("t", 1), ask("t#", 1)))
	p.refuses(api.ErrClientFilter, unsubscribe(0))
	p.refuses(api.ErrClientFilter, unsubscribe(0, ""))
	p.stands(0, isUp(), api.Link{Up: true})
	p.stands(1, api.State{}, api.Link{})
}

// TestNobody: a net without clients takes the moves that name none.
func TestNobody(t *testing.T) {
	p := newPlace(t, wide())
	p.goes(tick(), reboot(), rest(), tick())
	p.refuses(api.ErrNetClient, up(0))
	p.refuses(api.ErrNetClient, cut(0))
	p.refuses(api.ErrNetMove, api.Move{})
}

// TestUp: a Connect is laid, and comes byte by byte; so does what answers it.
func TestUp(t *testing.T) {
	p := newPlace(t, wide(), who("a"))
	p.goes(up(0))
	for n := 15; n > 0; n-- {
		p.stands(0, api.State{Phase: api.PhaseAsking}, api.Link{Up: true, In: n})
		if im := p.x.Image(); len(im.Sessions) > 0 {
			t.Fatalf("P18.3: %d bytes are missing, and there is a session", n)
		}
		p.goes(in(0, 1))
	}
	if im := p.x.Image(); len(im.Sessions) != 1 || im.Sessions[0].Client != "a" {
		t.Errorf("P18.3: %+v", im)
	}
	for n := 4; n > 0; n-- {
		p.stands(0, api.State{Phase: api.PhaseAsking}, api.Link{Up: true, Out: n})
		p.goes(out(0, 1))
	}
	p.stands(0, isUp(), api.Link{Up: true})
	p.goes(cut(0))
	p.stands(0, api.State{}, api.Link{})
	p.goes(up(0), rest())
	p.stands(0, api.State{Phase: api.PhaseUp, Present: true}, api.Link{Up: true})
}

// TestHowMany: so many bytes come, all, if there are fewer, none, below 1.
func TestHowMany(t *testing.T) {
	p := newPlace(t, wide(), who("a"), who("b"))
	p.goes(up(0), up(1), rest(), subscribe(0, ask("t", 0)), rest())
	link := api.Link{Up: true}
	for _, c := range []struct{ n, came int }{{0, 0}, {-1, 0}, {math.MinInt, 0}, {1, 1}, {2, 2}, {11, 11}, {12, 12}, {13, 12}, {math.MaxInt, 12}} {
		p.goes(publish(1, msg("t", "x", 0)), publish(1, msg("t", "y", 0)))
		p.stands(1, isUp(), api.Link{Up: true, In: 12})
		p.goes(in(1, c.n))
		p.stands(1, isUp(), api.Link{Up: true, In: 12 - c.came})
		p.stands(0, isUp(), api.Link{Up: true, Out: c.came / 6 * 6})
		p.goes(in(1, all))
		p.stands(1, isUp(), link)
		p.stands(0, isUp(), api.Link{Up: true, Out: 12})
		before := len(p.x.Got(0))
		p.goes(out(0, c.n))
		p.stands(0, isUp(), api.Link{Up: true, Out: 12 - c.came})
		if n := len(p.x.Got(0)) - before; n != c.came/6 {
			t.Errorf("P18.3: of %d bytes %d messages", c.came, n)
		}
		p.goes(out(0, all), in(0, all), out(0, all))
		p.stands(0, isUp(), link)
	}
}

// windowOf tells a session's window.
func windowOf(t *testing.T, p *place, client string) api.Window {
	t.Helper()
	for _, s := range p.x.Image().Sessions {
		if s.Client == client {
			return s.Window
		}
	}
	t.Fatalf("P18.4: %s has no session", client)
	return api.Window{}
}

// busy tells a place in which both lines of the client 0 have bytes: a Publish of its own, and a message for it.
func busy(t *testing.T) *place {
	t.Helper()
	p := newPlace(t, wide(), who("a"), who("b"))
	p.goes(up(0), up(1), rest(), subscribe(0, ask("t", 2)), subscribe(1, ask("u", 2)), rest())
	p.goes(publish(0, msg("u", "mine", 0)), publish(1, msg("t", "0", 0)), in(1, all))
	p.stands(0, isUp(), api.Link{Up: true, In: 9, Out: 6})
	return p
}

// TestCut: what is on both lines is lost; both sides know.
func TestCut(t *testing.T) {
	p := busy(t)
	p.goes(cut(0))
	p.stands(0, api.State{}, api.Link{})
	p.stands(1, isUp(), api.Link{Up: true})
	p.goes(publish(1, msg("t", "x", 1)), publish(1, msg("t", "y", 0)), rest())
	if w := windowOf(t, p, "a"); len(w.Flight) != 0 || len(w.Queue) != 1 {
		t.Errorf("P18.3: the broker doesn't know: %+v", w)
	}
	p.refuses(api.ErrNetLink, in(0, 1))
	p.goes(up(0), rest())
	p.got(0, "t=x q1")
	p.got(1, "")
}

// TestCutClean: a clean session is dropped, as the broker knows.
func TestCutClean(t *testing.T) {
	p := newPlace(t, api.Config{Sessions: 1, Subs: 9, Most: 1000}, clean(who("")), clean(who("b")))
	p.goes(up(0), rest(), cut(0), up(1), rest())
	p.stands(1, isUp(), api.Link{Up: true})
	p.goes(fade(1), up(0), rest())
	p.stands(0, api.State{Code: api.Unavailable}, api.Link{})
}

// TestFade: what is on both lines is lost; the client alone knows.
func TestFade(t *testing.T) {
	p := busy(t)
	p.goes(fade(0))
	p.stands(0, api.State{}, api.Link{})
	p.goes(publish(1, msg("t", "x", 1)), publish(1, msg("t", "y", 0)), publish(1, msg("t", "z", 2)), publish(1, msg("t", "w", 2)), rest())
	if w := windowOf(t, p, "a"); len(w.Flight) != 2 || len(w.Queue) != 1 {
		t.Errorf("P18.3: the broker knows: %+v", w)
	}
	p.refuses(api.ErrNetLink, fade(0))
	p.goes(up(0), rest())
	p.got(0, "t=x q1', t=z q2', t=w q2")
	p.got(1, "")
	p.stands(0, api.State{Phase: api.PhaseUp, Present: true}, api.Link{Up: true})
}

// TestFadedSilence: a faded connection stays, till its silence ends it; without a keep-alive it stays.
func TestFadedSilence(t *testing.T) {
	for _, keep := range []int{0, 2} {
		p := newPlace(t, wide(), alive(who("a"), keep), who("b"))
		p.goes(up(0), up(1), rest(), subscribe(0, ask("t", 1)), rest(), fade(0))
		for range 3 {
			p.goes(tick())
		}
		p.goes(publish(1, msg("t", "x", 1)), rest())
		if w := windowOf(t, p, "a"); len(w.Flight) != 1 {
			t.Errorf("P18.3: keep-alive %d, 3 ticks: %+v", keep, w)
		}
		p.goes(tick(), publish(1, msg("t", "y", 1)), rest())
		w := windowOf(t, p, "a")
		if late := len(w.Queue) == 1; late != (keep > 0) || len(w.Flight)+len(w.Queue) != 2 {
			t.Errorf("P18.3: keep-alive %d, 4 ticks: %+v", keep, w)
		}
		p.goes(up(0), rest())
		want := "t=x q1', t=y q1'"
		if keep > 0 {
			want = "t=x q1', t=y q1" // it waited
		}
		p.got(0, want)
	}
}
