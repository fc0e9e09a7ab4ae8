package pump_test

import (
	"fmt"
	"math"
	"slices"
	"strings"
	"testing"

	"crier/api"
	"crier/broker"
)

// TestRunExamples: doc/19-pump.md's.
func TestRunExamples(t *testing.T) {
	wants(t, "P19.1", wide(), "")
	wants(t, "P19.1", wide(), "1 20020000; 2 closed", opens(1), data(1, encoded(t, hello("a"))), opens(2), data(2, "\xFF"))
}

// TestRunPasses: what goes from one connection to others, and when it closes them, in the events' order.
func TestRunPasses(t *testing.T) {
	first := encoded(t, hello("a"), subscribe(7, ask("t/#", 2)))
	second := encoded(t, hello("b"), publish(msg("t", "x", 1), 5), kind(api.Pingreq, 0))
	wants(t, "P19.1", wide(), "1 20020000; 1 9003000702; 2 20020000; 1 3206000174000178; 2 40020005; 2 D000; 1 D000; 1 closed",
		opens(2), opens(1), data(1, first), data(2, second), data(1, "\xC0"), data(1, "\x00\xE0"), data(1, "\x00\xC0"))
	will := encoded(t, willed(alive(hello("b"), 1), msg("t", "w", 0)))
	wants(t, "P19.1", wide(), "1 20020000; 1 9003000702; 2 20020000; 2 closed; 1 300400017477; 1 D000",
		opens(1), data(1, first), opens(2), data(2, will), tick(), tick(), data(2, "\xC0\x00"), data(1, "\xC0\x00"))
}

// TestRunPassedOver: events that do nothing: of other numbers, of no kind, of connections that aren't open, or are.
func TestRunPassedOver(t *testing.T) {
	ping := encoded(t, clean(""), kind(api.Pingreq, 0))
	for _, n := range []int{math.MinInt, -1, api.MaxConn + 1, math.MaxInt} {
		wants(t, "P19.1", wide(), "", opens(n), data(n, ping), opens(n), data(n, ping), closes(n), opens(n), data(n, ping), data(n, "\xFF"), tick())
	}
	for _, n := range []int{0, 1, api.MaxConn} {
		wants(t, "P19.1", wide(), "", data(n, ping), closes(n), data(n, ping), opens(n), tick(), closes(n), data(n, ping))
		wants(t, "P19.1", wide(), fmt.Sprintf("%d 20020000; %d D000", n, n), data(n, "\xFF"), opens(n), data(n, ping[:4]), opens(n), data(n, ""), opens(n), data(n, ping[4:]))
	}
	for _, k := range []int{math.MinInt, -1, 0, 5, 6, math.MaxInt} {
		odd := api.Event{Kind: k, Conn: 1, Data: []byte("\xFF")}
		wants(t, "P19.1", wide(), "1 20020000; 1 D000", odd, opens(1), odd, data(1, ping[:4]), odd, data(1, ping[4:]), odd)
	}
	noisy := func(e api.Event) api.Event {
		e.Data = []byte("\xFF")
		return e
	}
	wants(t, "P19.1", wide(), "1 20020000; 1 D000; 1 20020000; 1 D000", noisy(opens(1)), data(1, ping[:4]), noisy(tick()), data(1, ping[4:]), noisy(closes(1)), opens(1), noisy(opens(1)), data(1, ping))
	far := tick()
	far.Conn = math.MaxInt
	c := wide()
	c.Patience = 1
	wants(t, "P19.1", c, "1 closed", opens(1), far, far)
}

// ending: a way in which the connection 1 ends, or doesn't.
type ending struct {
	name string
	c    api.Config
	l    []api.Event
	open bool // it is open still
}

// endings tells them; of each that leaves bytes of an unfinished packet these stand behind it.
func endings(t *testing.T) []ending {
	users, one, patience := wide(), wide(), wide()
	users.Users = []api.User{{Name: "u", Word: "w"}}
	one.Sessions = 1
	patience.Patience = 1
	known := hello("b")
	known.HasUser, known.User, known.HasPass, known.Pass = true, "u", true, []byte("w")
	old := hello("a")
	old.Level = 5
	says := func(l ...api.Packet) api.Event { return data(1, encoded(t, l...)) }
	half := func(l ...api.Packet) api.Event { return data(1, encoded(t, l...)+"\x30\x06\x00") }
	return []ending{
		{"never opened", wide(), nil, false},
		{"opened", wide(), []api.Event{opens(1)}, true},
		{"opened, half a packet", wide(), []api.Event{opens(1), half()}, true},
		{"joined", wide(), []api.Event{opens(1), says(hello("a"))}, true},
		{"joined, half a packet", wide(), []api.Event{opens(1), half(hello("a"))}, true},
		{"joined, a tick", wide(), []api.Event{opens(1), half(alive(hello("a"), 1)), tick()}, true},
		{"closed", wide(), []api.Event{opens(1), half(hello("a")), closes(1)}, false},
		{"closed, opened", wide(), []api.Event{opens(1), half(hello("a")), closes(1), opens(1)}, true},
		{"closed twice", wide(), []api.Event{opens(1), half(hello("a")), closes(1), closes(1)}, false},
		{"refused, code 1", wide(), []api.Event{opens(1), half(old)}, false},
		{"refused, code 2", wide(), []api.Event{opens(1), half(hello(""))}, false},
		{"refused, code 3", one, []api.Event{opens(2), data(2, encoded(t, hello("b"))), opens(1), half(hello("a"))}, false},
		{"refused, code 4", users, []api.Event{opens(1), half(hello("a"))}, false},
		{"let in", users, []api.Event{opens(1), half(known)}, true},
		{"disconnected", wide(), []api.Event{opens(1), half(hello("a"), kind(api.Disconnect, 0))}, false},
		{"broken", wide(), []api.Event{opens(1), half(hello("a"), kind(api.Pingresp, 0))}, false},
		{"broken at first", wide(), []api.Event{opens(1), data(1, "\xC0\x00\x30")}, false},
		{"twice", wide(), []api.Event{opens(1), half(hello("a")), says(hello("a"))}, false},
		{"replaced", wide(), []api.Event{opens(1), half(hello("a")), opens(2), data(2, encoded(t, hello("a")))}, false},
		{"not replaced", wide(), []api.Event{opens(1), half(hello("a")), opens(2), data(2, encoded(t, hello("b")))}, true},
		{"late", wide(), []api.Event{opens(1), half(alive(hello("a"), 1)), tick(), tick()}, false},
		{"late with its Connect", patience, []api.Event{opens(1), half(), tick(), tick()}, false},
		{"closed behind its end", wide(), []api.Event{opens(1), half(hello("")), closes(1)}, false},
		{"closed behind its end, opened", wide(), []api.Event{opens(1), half(hello("")), closes(1), opens(1)}, true},
		{"closed behind its end, opened, its bytes", wide(), []api.Event{opens(1), half(hello("")), closes(1), opens(1), half(hello("c"))}, true},
	}
}

// openBehind tells whether the connection 1 is open behind events.
func openBehind(c api.Config, l []api.Event) bool {
	b := broker.New(c)
	open := false
	for _, e := range l {
		if e.Conn == 1 && (e.Kind == api.Open || e.Kind == api.Close) {
			open = e.Kind == api.Open
		}
		for _, o := range b.Do(e) {
			open = open && (o.Conn != 1 || !o.Closed)
		}
	}
	return open
}

// TestRunOpensAnew: an Open of a connection that was open: behind its end a new one begins, which knows nothing of the bytes that are left; else it is passed over, and the packet goes on.
func TestRunOpensAnew(t *testing.T) {
	for _, e := range endings(t) {
		if openBehind(e.c, e.l) != e.open {
			t.Errorf("P16.1: %s: open %t", e.name, !e.open)
		}
		for _, after := range [][]api.Event{
			nil,
			{opens(1)},
			{opens(1), opens(1)},
			{tick()},
			{data(1, "")},
			{data(1, "\x01")},
			{opens(1), data(1, "\x01"), opens(1)},
			{closes(1), opens(1)},
			{opens(1), closes(1), opens(1)},
			{closes(1), opens(1), opens(1)},
		} {
			l := append(append([]api.Event(nil), e.l...), after...)
			l = append(l, opens(1), data(1, "\x01t12"), data(1, encoded(t, kind(api.Pingreq, 0))), opens(1), data(1, encoded(t, clean("n"), kind(api.Pingreq, 0))))
			holds(t, "P19.1: "+e.name, e.c, l, crews()...)
			l = append(append(append([]api.Event(nil), e.l...), after...), opens(1), data(1, encoded(t, clean("n"), kind(api.Pingreq, 0))))
			holds(t, "P19.1: "+e.name, e.c, l, crews()...)
		}
	}
}

// TestRunTwoEndings: one way behind the other, and Opens between.
func TestRunTwoEndings(t *testing.T) {
	l := endings(t)
	for _, a := range l {
		for _, b := range l {
			for _, between := range [][]api.Event{nil, {opens(1)}, {closes(1)}, {opens(2), data(1, "\xC0")}} {
				all := append(append(append([]api.Event(nil), a.l...), between...), b.l...)
				all = append(all, opens(1), data(1, encoded(t, hello("z"), kind(api.Pingreq, 0))), data(2, "\xC0\x00"))
				holds(t, "P19.1: "+a.name+", "+b.name, a.c, all, 1, 3)
			}
		}
	}
}

// TestRunEveryOrder: all scripts of a few events.
func TestRunEveryOrder(t *testing.T) {
	c := wide()
	c.Patience = 1
	first, second := encoded(t, alive(hello("a"), 1), kind(api.Pingreq, 0)), encoded(t, hello("a"), subscribe(1, ask("#", 0)))
	events := []api.Event{opens(1), data(1, first[:5]), data(1, first[5:]), closes(1), tick(), opens(2), data(2, second), data(1, "\xC0\x00\xFF")}
	script := make([]api.Event, 0, 6)
	n := 0
	var grow func(left int)
	grow = func(left int) {
		if left == 0 {
			n++
			holds(t, "P19.1", c, script, 1+n%3)
			return
		}
		for _, e := range events {
			script = append(script, e)
			grow(left - 1)
			script = script[:len(script)-1]
		}
	}
	grow(5)
	script = append(script, opens(1), data(1, first[:5]))
	grow(4)
}

// TestRunSetup: the setup's numbers count as they do in a broker.
func TestRunSetup(t *testing.T) {
	for _, most := range []int{math.MinInt, 0, 1, 2, 3, 4, 12, 13, 14, 100, api.MaxLength, math.MaxInt} {
		c := wide()
		c.Most = most
		holds(t, "P19.1", c, []api.Event{opens(1), data(1, encoded(t, clean("a"), publish(msg("t", "0123456789", 0), 0), kind(api.Pingreq, 0)))}, 1, 8)
		holds(t, "P19.1", c, []api.Event{opens(1), data(1, encoded(t, clean("a"))), data(1, "\x30\xFF\xFF\xFF\x7F"), data(1, "\xC0\x00")}, 1, 8)
		holds(t, "P19.1", c, []api.Event{opens(1), data(1, "\x40\x02"), opens(2), data(2, "\x40\x03"), opens(3), data(3, "\x40\x04")}, 1, 8)
	}
	for _, list := range []bool{false, true} {
		c := wide()
		c.List, c.Cache, c.Window, c.Queue, c.Subs, c.Retained = list, 1, -1, -1, 1, 1
		kept := msg("t", "x", 2)
		kept.Retain = true
		l := []api.Event{opens(1), data(1, encoded(t, hello("a"), subscribe(1, ask("t", 2), ask("u", 1)), publish(kept, 1), publish(kept, 2), subscribe(2, ask("t", 1))))}
		holds(t, "P19.1", c, l, 1, 8)
	}
}

// TestRunLong: bytes that are longer than what is read at once, in one event or in many, and packets that are.
func TestRunLong(t *testing.T) {
	c := wide()
	c.Most = 1 << 20
	great := strings.Repeat("great ", 50000)
	some := encoded(t, clean("a"), subscribe(1, ask("t", 0)), publish(msg("t", great, 0), 0)) + strings.Repeat("\xC0\x00", 70000) + encoded(t, publish(msg("t", great, 1), 7), kind(api.Disconnect, 0), kind(api.Pingreq, 0))
	other := encoded(t, clean("b"), subscribe(1, ask("#", 1)))
	l := []api.Event{opens(1), opens(2), data(2, other), data(1, some), opens(1), data(1, other)}
	holds(t, "P19.1", c, l, 1, 2, 8)
	for _, size := range []int{1000, 1<<16 - 1, 1 << 16, 1<<16 + 1, 100000} {
		l := []api.Event{opens(1), opens(2), data(2, other)}
		for left := some; len(left) > 0; left = left[min(size, len(left)):] {
			l = append(l, data(1, left[:min(size, len(left))]), data(2, "\xC0\x00"))
		}
		holds(t, "P19.1", c, append(l, opens(1), data(1, other)), 1, 8)
	}
	c.Most = 1000
	holds(t, "P19.1", c, l, 1, 8)
}

// TestRunAllPlaces: whatever stands where the bytes that are read at once end: an Open, a Close, a tick, halves of packets.
func TestRunAllPlaces(t *testing.T) {
	c := wide()
	c.Patience = 2
	ping := "\xC0\x00"
	a, b := encoded(t, alive(hello("a"), 1)), encoded(t, hello("a"))
	tail := []api.Event{opens(1), data(1, a[:3]), opens(1), data(1, a[3:]+ping), opens(2), data(2, b+ping), opens(1), data(1, a[:9]), opens(1), data(1, a[9:]+"\xC0"), tick(), closes(2), data(2, ping), opens(2), tick(), data(2, b), opens(1), data(1, b)}
	for k := range 90 {
		fat := encoded(t, clean("fat"), publish(msg("t", strings.Repeat("x", 1<<16-40-k), 0), 0))
		holds(t, "P19.1", c, append([]api.Event{opens(3), data(3, fat)}, tail...), 1+k%8)
	}
	thin := slices.Repeat([]api.Event{closes(4)}, 1<<16-90)
	for k := range 95 {
		thin = append(thin, closes(4))
		holds(t, "P19.1", c, append(slices.Clip(thin), tail...), 1+k%8)
	}
}

// TestRunCrowd: more connections than workers, each with bytes in many pieces, all names taken over again and again.
func TestRunCrowd(t *testing.T) {
	for _, size := range []int{1, 3, 10, 1000} {
		var l []api.Event
		left := map[int]string{}
		for n := range 60 {
			l = append(l, opens(n))
			qos := n % 3
			p := willed(hello(fmt.Sprint(n%17)), msg("w", fmt.Sprint(n), qos))
			left[n] = encoded(t, p, subscribe(1, ask("#", qos)), publish(msg(fmt.Sprint("t/", n%5), fmt.Sprint(n), qos), qos*n), kind(api.Pingreq, 0))
		}
		for more := true; more; {
			more = false
			for n := range 60 {
				k := min(size, len(left[n]))
				l = append(l, data(n, left[n][:k]))
				left[n] = left[n][k:]
				more = more || left[n] != ""
			}
		}
		for n := range 60 {
			l = append(l, opens(n), data(n, encoded(t, clean(fmt.Sprint(n%17)))))
		}
		holds(t, "P19.1", wide(), l, crews()...)
	}
}
