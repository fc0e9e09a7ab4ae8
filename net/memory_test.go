package net_test

import (
	"fmt"
	"math/rand"
	"runtime"
	"strings"
	"testing"

	"crier/api"
	"crier/image"
	"crier/net"
)

// TestGotApart: no two lists of an answer share any memory, nor does an earlier answer with a later one.
func TestGotApart(t *testing.T) {
	x := plain(t, wide(), who("a"))
	done(t, x, up(0), rest(), subscribe(0, ask("t", 0)), rest())
	for _, s := range []string{"one", "two", "", "four"} {
		done(t, x, publish(0, msg("t", s, 0)), rest())
	}
	want := "t=one q0, t=two q0, t= q0, t=four q0"
	first, second := x.Got(0), x.Got(0)
	spoilTold(first)
	if s := told(second); s != want {
		t.Errorf("DOC 3: %s", s)
	}
	fill(second[0].Msg.Payload, 0xF0)
	if s := told(second[1:]); s != strings.TrimPrefix(want, "t=one q0, ") {
		t.Errorf("DOC 3: %s", s)
	}
	if s := told(x.Got(0)); s != want {
		t.Errorf("DOC 3: %s", s)
	}
}

// TestImageApart: so it is with images, of which none touches the broker.
func TestImageApart(t *testing.T) {
	x := plain(t, wide(), who("a"), who("b"))
	kept := msg("k", "kept", 1)
	kept.Retain = true
	done(t, x, up(0), up(1), rest(), subscribe(0, ask("t", 2), ask("u", 0)), rest(), fade(0), publish(1, kept))
	for range 4 {
		done(t, x, publish(1, msg("t", "payload", 2)), rest())
	}
	done(t, x, publish(1, msg("u", "", 2)), in(1, all))
	first, second := x.Image(), x.Image()
	s := second.Sessions
	if len(s) != 2 || len(s[0].Subs) != 2 || len(s[0].Window.Flight) != 2 || len(s[0].Window.Queue) != 2 || len(s[1].Inbox) != 1 || len(second.Retained) != 1 {
		t.Fatalf("P18.4: %+v", second)
	}
	spoilImage(first)
	if third := x.Image(); !image.Same(second, third) {
		t.Errorf("DOC 3: %+v; want %+v", second, third)
	}
}

// TestHandedIn: nothing of it is changed, nor kept.
func TestHandedIn(t *testing.T) {
	users := []api.User{{Name: "u", Word: "w"}, {Name: "behind"}}
	clients := []api.Who{who("a"), who("b"), who("behind")}
	c := wide()
	c.Users = users[:1]
	n := api.Net{Config: c, Clients: clients[:2]}
	refusing, e := net.New(n)
	n.Config.Users = nil
	x, d := net.New(n)
	if e != api.OK || d != api.OK || users[0] != (api.User{Name: "u", Word: "w"}) || users[1].Name != "behind" || clients[0] != who("a") || clients[2] != who("behind") {
		t.Fatalf("DOC 3: %v, %v", users, clients)
	}
	fill(users, api.User{})
	fill(clients, api.Who{Name: "a"})
	users[0] = api.User{Name: "x", Word: "x"}
	for range 2 {
		done(t, refusing, up(0), rest())
		if s, _ := refusing.State(0); s.Code != api.BadUser {
			t.Errorf("DOC 3: %+v", s)
		}
		done(t, refusing, reboot())
	}
	done(t, x, up(0), up(1), rest())
	payload := []byte("payload, and what is behind")
	asks := []api.Ask{ask("t", 1), ask("u", 0), ask("v", 2)}
	filters := []string{"u", "v", "w"}
	m := api.Move{Msg: api.Message{Topic: "t", Payload: payload[:7], QoS: 1}, Asks: asks[:2], Filters: filters[:1]}
	for _, kind := range []int{api.MoveSubscribe, api.MoveUnsubscribe, api.MovePublish, api.MovePublish, api.MovePublish} {
		m.Kind = kind
		done(t, x, m)
	}
	if string(payload) != "payload, and what is behind" || asks[0] != ask("t", 1) || asks[2] != ask("v", 2) || strings.Join(filters, "") != "uvw" {
		t.Errorf("DOC 3: %s, %v, %v", payload, asks, filters)
	}
	fill(payload, 0xF0)
	fill(asks, ask("#", 2))
	fill(filters, "t")
	done(t, x, rest())
	if s := told(x.Got(0)); s != "t=payload q1, t=payload q1, t=payload q1" {
		t.Errorf("DOC 3: %s", s)
	}
	if l := x.Image().Sessions; fmt.Sprint(l[0].Subs) != "[{t 1}]" {
		t.Errorf("DOC 3: %+v", l)
	}
}

// TestTwoNets: what happens in one doesn't touch the other; the same moves are answered the same.
func TestTwoNets(t *testing.T) {
	r := rand.New(rand.NewSource(185))
	n := api.Net{Config: wide(), Clients: []api.Who{alive(who("a"), 2), who("b"), clean(who(""))}}
	p := newPlace(t, n.Config, n.Clients...)
	still := newPlace(t, n.Config, n.Clients...)
	still.goes(up(0), rest(), publish(1, msg("t", "x", 1)))
	later := plain(t, n.Config, n.Clients...)
	var moves []api.Move
	var answers []api.Errno
	for range 500 {
		m := someMove(r, p)
		moves, answers = append(moves, m), append(answers, p.do(m))
	}
	for i, m := range moves {
		if e := later.Do(m); e != answers[i] {
			t.Fatalf("DOC 6: move %d, %+v: %d; want %d", i, m, e, answers[i])
		}
	}
	for i := range n.Clients {
		s, l := p.x.State(i)
		if ls, ll := later.State(i); s != ls || l != ll || told(p.x.Got(i)) != told(later.Got(i)) {
			t.Errorf("DOC 6: %+v %+v; want %+v %+v", ls, ll, s, l)
		}
	}
	if !image.Same(p.x.Image(), later.Image()) {
		t.Errorf("DOC 6: %+v; want %+v", later.Image(), p.x.Image())
	}
	still.hold()
	still.holdAll()
	still.stands(0, isUp(), api.Link{Up: true})
	still.stands(1, api.State{Waiting: 1}, api.Link{})
}

// rough: by how many bytes what held tells may be wrong.
const rough = 1 << 20

// held tells how many bytes the program has, garbage aside.
func held() int {
	var s runtime.MemStats
	runtime.GC()
	runtime.GC()
	runtime.ReadMemStats(&s)
	return int(s.HeapAlloc)
}

func small(t *testing.T, why string, before int, x *net.Net) {
	t.Helper()
	if n := held() - before; n > rough {
		t.Errorf("LANGUAGE 8: %s: %d bytes are kept", why, n)
	}
	runtime.KeepAlive(x)
}

// piece tells a short text that lies in a great one.
func piece(s string) string { return (strings.Repeat("l", 8<<20) + s)[8<<20:] }

// TestPieces: of texts and lists that are handed in, and that lie in great ones, just what is needed is kept.
func TestPieces(t *testing.T) {
	before := held()
	c := wide()
	c.Users = []api.User{{Name: piece("u"), Word: piece("w")}}
	x := plain(t, c, who(piece("a")))
	c.Users = nil
	small(t, "users and names", before, x)
	done(t, x, reboot())
	small(t, "users, behind a reboot", before, x)
	y := plain(t, c, who(piece("a")))
	done(t, y, up(0), rest(), subscribe(0, ask(piece("t"), 1)), unsubscribe(0, piece("u")))
	for range 4 {
		done(t, y, publish(0, api.Message{Topic: piece("t"), Payload: append(make([]byte, 0, 8<<20), 'x'), QoS: 1}))
	}
	small(t, "what it says", before, y)
	done(t, y, rest())
	small(t, "what it was told", before, y)
	runtime.KeepAlive(x)
}

// TestLinesForgotten: what was on a line isn't kept, when it has come, or is lost.
func TestLinesForgotten(t *testing.T) {
	const much = 8 << 20
	c := wide()
	c.Most = api.MaxLength
	big := api.Message{Topic: "t", Payload: make([]byte, much)}
	before := held()
	x := plain(t, c, alive(who("a"), 1), who("b"))
	// ready: a great message is on the line out of a and on the line in of a, and that of b has nothing.
	ready := func() {
		t.Helper()
		done(t, x, up(0), up(1), rest(), subscribe(0, ask("t", 0)), rest(), publish(1, big), in(1, all), publish(0, big))
		if _, l := x.State(0); l.In < much || l.Out < much {
			t.Fatalf("P18.4: %+v", l)
		}
		if n := held() - before; n < 2*much {
			t.Errorf("P18.2: %d bytes are held", n)
		}
	}
	for name, l := range map[string][]api.Move{
		"cut":             {cut(0), cut(1)},
		"fade":            {fade(0), cut(1)},
		"reboot":          {reboot()},
		"shut and cut":    {tick(), tick(), cut(0), cut(1)},
		"shut and a fade": {tick(), tick(), fade(0), cut(1)},
	} {
		ready()
		done(t, x, l...)
		small(t, name, before, x)
	}
	ready()
	done(t, x, tick(), tick())
	if n := held() - before - much; n > much/2+rough {
		t.Errorf("LANGUAGE 8: a line in that is shut: %d bytes are kept", n)
	}
	done(t, x, out(0, much))
	if n := held() - before - much; n > rough { // the client has the packet's beginning
		t.Errorf("LANGUAGE 8: a line out that has come: %d bytes are kept", n)
	}
	done(t, x, cut(0))
	small(t, "a packet's beginning", before, x)
	done(t, x, up(0), rest(), unsubscribe(0, "t"), rest(), publish(0, big), in(0, much))
	if n := held() - before - much; n > rough { // the broker has it
		t.Errorf("LANGUAGE 8: a line in that has come: %d bytes are kept", n)
	}
	done(t, x, rest())
	small(t, "a message that came", before, x)
	runtime.KeepAlive(big.Payload)
}

// TestConnectionsForgotten: of connections that are open no more nothing is kept.
func TestConnectionsForgotten(t *testing.T) {
	c := wide()
	c.Patience = 1
	before := held()
	x := plain(t, c, who("a"), who("b"))
	for name, l := range map[string][]api.Move{"reboot": {reboot()}, "patience": {tick(), tick()}} {
		again(t, x, numbers, up(0), fade(0))
		if n := held() - before; n < 2*rough {
			t.Errorf("P18.3: of all connections %d bytes are held", n)
		}
		done(t, x, l...)
		small(t, name, before, x)
	}
	again(t, x, numbers/2, up(0), up(1), cut(0), cut(1))
	small(t, "cut", before, x)
}

// TestLongLine: very many bytes come one by one, which doesn't take longer, the more are left.
func TestLongLine(t *testing.T) {
	const many = 400000
	c := wide()
	c.Most = api.MaxLength
	x := plain(t, c, who("a"))
	done(t, x, up(0), rest(), subscribe(0, ask("t", 0)), rest(), publish(0, api.Message{Topic: "t", Payload: make([]byte, many)}))
	_, l := x.State(0)
	again(t, x, l.In, in(0, 1))
	if _, now := x.State(0); now.In != 0 || now.Out != l.In {
		t.Errorf("P18.3: %+v behind %+v", now, l)
	}
	again(t, x, l.In, out(0, 1))
	if got := x.Got(0); len(got) != 1 || len(got[0].Msg.Payload) != many {
		t.Errorf("P18.4: %d told", len(got))
	}
}
