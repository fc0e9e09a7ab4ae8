package net_test

import (
	"testing"

	"crier/api"
	"crier/net"
)

// numbers: how many connections may be open.
const numbers = api.MaxConn + 1

// plain tells a net without a model: with so many moves that would take its time.
func plain(t *testing.T, c api.Config, l ...api.Who) *net.Net {
	t.Helper()
	x, e := net.New(api.Net{Config: c, Clients: l})
	if x == nil || e != api.OK {
		t.Fatalf("P18.1: New: %d", e)
	}
	return x
}

func done(t *testing.T, x *net.Net, l ...api.Move) {
	t.Helper()
	for _, m := range l {
		if e := x.Do(m); e != api.OK {
			t.Fatalf("P18.3: %+v: %d", m, e)
		}
	}
}

// again lets the same moves happen so often.
func again(t *testing.T, x *net.Net, times int, l ...api.Move) {
	t.Helper()
	for range times {
		done(t, x, l...)
	}
}

func refused(t *testing.T, x *net.Net, want api.Errno, m api.Move) {
	t.Helper()
	if e := x.Do(m); e != want {
		t.Errorf("P18.3: %+v: %d; want %d", m, e, want)
	}
}

// answered: a client is up, and what it says is answered.
func answered(t *testing.T, x *net.Net, client int) {
	t.Helper()
	done(t, x, publish(client, msg("$open", "", 1)), rest())
	if s, l := x.State(client); s.Phase != api.PhaseUp || s.Under+s.Waiting > 0 || l != (api.Link{Up: true}) {
		t.Errorf("P18.6: client %d: %+v %+v", client, s, l)
	}
}

// TestNumbersBeginAnew: there are more links than numbers; one that faded, and one that is up, keep theirs, 0 and 1.
func TestNumbersBeginAnew(t *testing.T) {
	x := plain(t, wide(), who("a"), who("b"), who("c"))
	done(t, x, up(0), rest(), fade(0), up(1), rest())
	for _, ahead := range []int{numbers - 4, numbers - 7} {
		again(t, x, ahead, up(2), cut(2)) // up to 65533
		for range 5 {
			done(t, x, up(2), rest())
			answered(t, x, 1)
			answered(t, x, 2)
			done(t, x, cut(2))
		}
	}
	done(t, x, up(0), rest())
	answered(t, x, 0)
}

// TestNumbersByEveryMove: a connection's number is free again, whatever ended it. There are but two, and then none is free.
func TestNumbersByEveryMove(t *testing.T) {
	c := wide()
	c.Most = 14
	x := plain(t, c, clean(who("")), alive(who("b"), 1), who("a longer name"))
	again(t, x, numbers-2, up(0), fade(0))
	for _, l := range [][]api.Move{
		{up(1), cut(1)},
		{up(1), in(1, all), cut(1)},
		{up(1), in(1, all), out(1, all), leave(1)},
		{up(1), in(1, all), out(1, all), tick(), tick()},
		{up(1), in(1, all), tick(), tick(), out(1, all)},
		{up(1), in(1, all), tick(), tick(), fade(1)},
		{up(1), in(1, all), fade(1), tick(), tick()},
		{up(1), in(1, all), fade(1), up(1), in(1, all), cut(1)},
		{up(2), in(2, all)},
	} {
		again(t, x, 5, l...)
		done(t, x, up(1), rest())
		answered(t, x, 1)
		done(t, x, cut(1))
	}
	done(t, x, up(0), up(1), rest(), fade(0))
	refused(t, x, api.ErrNetFull, up(0))
	done(t, x, reboot())
	again(t, x, numbers, up(0), fade(0))
	refused(t, x, api.ErrNetFull, up(1))
}

// TestFull: all connections are open, most of them without a link.
func TestFull(t *testing.T) {
	c := wide()
	c.Patience = 3
	for _, way := range [][]api.Move{{reboot()}, {tick(), tick(), tick(), tick()}, {cut(1)}} {
		x := plain(t, c, clean(who("")), who("b"), who("c"))
		again(t, x, numbers-2, up(0), fade(0))
		done(t, x, up(1), in(1, all), out(1, all))
		again(t, x, 3, up(2), cut(2)) // the last number, again and again
		done(t, x, up(0))
		for i := range 3 {
			refused(t, x, api.ErrNetFull, up(i)) // ahead of the client's error
		}
		refused(t, x, api.ErrNetClient, up(3))
		refused(t, x, api.ErrNetClient, up(-1))
		if s, l := x.State(2); s != (api.State{}) || l != (api.Link{}) {
			t.Errorf("P18.3: a move that was refused: %+v %+v", s, l)
		}
		done(t, x, publish(2, msg("t", "x", 1)), publish(1, msg("t", "x", 1)))
		done(t, x, fade(0))
		refused(t, x, api.ErrNetFull, up(0))
		done(t, x, way...)
		done(t, x, up(2), rest())
		answered(t, x, 2)
		if way[0].Kind == api.MoveCut {
			refused(t, x, api.ErrNetFull, up(1))
		} else {
			done(t, x, up(0), rest())
		}
	}
}

// TestLastNumbers: of all numbers just two are free, far apart, which two clients have in turn.
func TestLastNumbers(t *testing.T) {
	x := plain(t, wide(), clean(who("")), who("b"), who("c"))
	again(t, x, 10, up(0), fade(0))
	done(t, x, up(1), rest())
	again(t, x, numbers/2, up(0), fade(0))
	done(t, x, up(2), rest())
	again(t, x, numbers/2-12, up(0), fade(0))
	refused(t, x, api.ErrNetFull, up(0))
	for range 3 {
		for _, order := range [][]int{{1, 2}, {2, 1}, {1}, {2}} {
			for _, i := range order {
				done(t, x, cut(i))
			}
			for _, i := range order {
				done(t, x, up(i), rest())
				answered(t, x, i)
			}
			answered(t, x, 1)
			answered(t, x, 2)
			refused(t, x, api.ErrNetFull, up(0))
		}
	}
}

// TestNumberOfAnother: a link that is shut has no connection any more: its number may be another link's, which it doesn't touch, whatever becomes of it (P18.2, P18.6).
func TestNumberOfAnother(t *testing.T) {
	for _, m := range []api.Move{cut(0), fade(0), leave(0), out(0, all), rest()} {
		x := plain(t, wide(), alive(who("a"), 1), who("b"), who("c"))
		done(t, x, up(0), up(1), rest(), subscribe(0, ask("t", 0)), subscribe(1, ask("t", 0)), rest())
		done(t, x, publish(1, msg("t", "x", 0)), in(1, all), tick(), tick())
		want := api.Link{Up: true, Shut: true, Out: 6}
		if s, l := x.State(0); s.Phase != api.PhaseUp || l != want {
			t.Fatalf("P18.2: %+v %+v", s, l)
		}
		again(t, x, numbers-2, up(2), cut(2)) // 2 to 65535, and 0 is the next one
		done(t, x, up(2), in(2, all), out(2, all), subscribe(2, ask("t", 0)), in(2, all))
		if _, l := x.State(0); l != want {
			t.Errorf("P18.2: it has what another one is sent: %+v", l)
		}
		done(t, x, out(2, all), out(1, all), m)
		done(t, x, publish(1, msg("t", "y", 0)), in(1, all))
		if _, l := x.State(2); l != (api.Link{Up: true, Out: 6}) {
			t.Errorf("P18.6: move %d of the link that is shut: %+v", m.Kind, l)
		}
		done(t, x, rest())
		if l := told(x.Got(2)); l != "t=y q0" {
			t.Errorf("P18.6: move %d of the link that is shut: %s", m.Kind, l)
		}
		answered(t, x, 2)
		answered(t, x, 1)
		done(t, x, cut(2), up(2), rest())
		answered(t, x, 2)
	}
}
