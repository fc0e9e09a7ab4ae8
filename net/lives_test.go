package net_test

import (
	"fmt"
	"math"
	"math/rand"
	"testing"

	"crier/api"
)

func someConfig(r *rand.Rand) api.Config {
	c := api.Config{
		List:     r.Intn(2) == 0,
		Cache:    someOf(r, -1, 0, 1, 5),
		Window:   someOf(r, -1, 1, 1, 2, 3, 100),
		Queue:    someOf(r, -1, 0, 1, 2, 3, 8, 100, 100),
		Subs:     someOf(r, 0, 1, 2, 3, 100, 100),
		Retained: someOf(r, 0, 1, 2, 3, 100),
		Sessions: someOf(r, 1, 2, 3, 100, 100, 100, 100),
		Most:     someOf(r, 16, 20, 1000, 1<<40, 1<<40, 1<<40),
		Patience: someOf(r, -1, 0, 0, 1, 3, 8),
	}
	if r.Intn(20) == 0 {
		c.Users = []api.User{{Name: "u", Word: "w"}}
	}
	return c
}

func someClients(r *rand.Rand) []api.Who {
	var l []api.Who
	for i := range r.Intn(6) {
		w := api.Who{Name: fmt.Sprint("c", i), Clean: r.Intn(3) == 0, KeepAlive: someOf(r, -1, 0, 0, 1, 2, 3, 9), Window: someOf(r, -1, 1, 2, 3, 65535)}
		if w.Clean && r.Intn(2) == 0 {
			w.Name = ""
		}
		l = append(l, w)
	}
	return l
}

func someTopic(r *rand.Rand) string { return someOf(r, "a", "b", "a/b", "$s", "a/b/c") }

func someFilter(r *rand.Rand) string {
	return someOf(r, "a", "b", "a/b", "#", "+", "a/#", "+/b", "$s")
}

func someMessage(r *rand.Rand, name string) api.Message {
	m := msg(someTopic(r), name, r.Intn(3))
	m.Retain = r.Intn(4) == 0
	switch r.Intn(40) {
	case 0:
		m.Topic = someOf(r, "", "a+", "\xFF")
	case 1:
		m.QoS = someOf(r, -1, 3)
	case 2:
		m.Payload = nil
	case 3:
		m.Payload = make([]byte, 30)
	}
	return m
}

func someAsks(r *rand.Rand) []api.Ask {
	l := []api.Ask{ask(someFilter(r), r.Intn(3))}
	for r.Intn(3) == 0 {
		l = append(l, ask(someFilter(r), r.Intn(3)))
	}
	if r.Intn(30) == 0 {
		return someOf(r, nil, []api.Ask{ask("a", 3)}, []api.Ask{ask("a", 0), ask("a#", 0)})
	}
	return l
}

func someMany(r *rand.Rand) int {
	return someOf(r, 1, 2, 3, 4, 5, 9, 20, all, all, all, 0, -1, math.MinInt, math.MaxInt)
}

// someMove tells a move, as a rule one that can be.
func someMove(r *rand.Rand, p *place) api.Move {
	n := 0
	if len(p.m.c) > 0 {
		n = r.Intn(len(p.m.c))
	}
	if r.Intn(100) == 0 {
		n = someOf(r, -1, len(p.m.c), math.MinInt, math.MaxInt)
	}
	if len(p.m.c) > n && n >= 0 && p.m.of(n) == nil && r.Intn(3) > 0 {
		return up(n)
	}
	switch r.Intn(48) {
	case 0, 1:
		return up(n)
	case 2:
		return cut(n)
	case 3, 4:
		return fade(n)
	case 5:
		return leave(n)
	case 6, 7, 8, 9, 10, 11, 12, 13:
		return publish(n, someMessage(r, fmt.Sprint(p.count)))
	case 14, 15, 16:
		return subscribe(n, someAsks(r)...)
	case 17:
		return unsubscribe(n, someOf(r, []string{"a"}, []string{"#", "+"}, []string{"b", "b"}, nil, []string{"a#"})...)
	case 18, 19:
		return tick()
	case 20:
		if r.Intn(3) > 0 {
			return tick()
		}
		return reboot()
	case 21:
		return rest()
	case 22:
		return api.Move{Kind: someOf(r, 0, 13, -1, math.MinInt, math.MaxInt), Client: n, N: 1}
	case 23, 24, 25, 26, 27, 28, 29, 30, 31, 32, 33, 34, 35:
		return in(n, someMany(r))
	}
	return out(n, someMany(r))
}

// TestLives: all moves in any order, in all kinds of nets, held against the model.
func TestLives(t *testing.T) {
	r := rand.New(rand.NewSource(181))
	seen := map[string]int{}
	for range 1500 {
		p := newPlace(t, someConfig(r), someClients(r)...)
		for range r.Intn(250) {
			m := someMove(r, p)
			e := p.do(m)
			seen[fmt.Sprintf("move %d: %d", m.Kind, e)]++
			if m.Kind == api.MoveRest {
				p.rests()
			}
		}
		p.holdAll()
		p.goes(rest())
		p.rests()
		for i := range p.m.c {
			p.open(i)
		}
		p.holdAll()
		for what, n := range p.m.seen {
			seen[what] += n
		}
	}
	want := []string{
		"move 0: 182", "move 13: 182", "move -1: 182", "closing of a faded one", "shut with bytes", "shut at once", "lost output", "laid on a shut one", "left with bytes", "down by its own doing", "shut and emptied", "pings",
		"move 1: 171", "move 4: 172", "move 5: 172", "move 5: 173", "move 6: 172", "move 6: 175", "move 7: 172", "move 7: 175",
	}
	for kind := 1; kind <= 12; kind++ {
		want = append(want, fmt.Sprintf("move %d: 0", kind))
		if kind <= 9 {
			want = append(want, fmt.Sprintf("move %d: 181", kind))
		}
	}
	for _, kind := range []int{2, 3, 4, 8, 9} {
		want = append(want, fmt.Sprintf("move %d: 183", kind), fmt.Sprintf("move %d of a shut one", kind))
	}
	for _, what := range want {
		if seen[what] < 10 {
			t.Errorf("%s: %d times", what, seen[what])
		}
	}
}

// rests: no line has a byte (P18.5), and none is shut then.
func (p *place) rests() {
	p.t.Helper()
	for i := range p.m.c {
		if _, l := p.x.State(i); l.In+l.Out > 0 || l.Shut {
			p.fault("P18.5", "State(%d): %+v", i, l)
		}
	}
}
