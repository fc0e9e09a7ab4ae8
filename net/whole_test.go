package net_test

import (
	"fmt"
	"math/rand"
	"slices"
	"testing"

	"crier/api"
	"crier/net"
	"crier/topic"
)

// taken: a message without the retain mark that a lasting client took.
type taken struct {
	by    int
	msg   api.Message
	subs  map[int][]api.Ask // of each lasting client whose Subscribes were all answered: the filters that it had
	asked []int             // how often each client had asked for something, or given it up
}

// story: a net as in P22.7, and what its clients took.
type story struct {
	t       *testing.T
	x       *net.Net
	c       api.Config
	clients []api.Who
	moves   []api.Move
	taken   []taken
	asked   []int
	poor    []bool // of each client: it asked for something at a quality below 2
	ups     []int
	lossy   bool // there is room for a few messages only: some are lost
	seen    map[string]int
}

func newStory(t *testing.T, c api.Config, clients []api.Who) *story {
	t.Helper()
	n := len(clients)
	return &story{t: t, x: plain(t, c, clients...), c: c, clients: clients, asked: make([]int, n), poor: make([]bool, n), ups: make([]int, n), seen: map[string]int{}}
}

func (s *story) fault(promise, form string, args ...any) {
	s.t.Helper()
	all := ""
	for _, m := range s.moves {
		all += fmt.Sprintf("%+v\n", m)
	}
	s.t.Fatalf("%s: %s\n%+v %+v\n%s", promise, fmt.Sprintf(form, args...), s.c, s.clients, all)
}

// do lets a move happen, and notes what P22.7 and P22.8 hang on.
func (s *story) do(m api.Move) api.Errno {
	s.t.Helper()
	s.moves = append(s.moves, m)
	var now taken
	if m.Kind == api.MovePublish && !m.Msg.Retain && !s.clients[m.Client].Clean {
		now = taken{by: m.Client, msg: m.Msg, subs: s.agreed(), asked: slices.Clone(s.asked)}
	}
	e := s.x.Do(m)
	switch {
	case e != api.OK:
		return e
	case now.asked != nil:
		s.taken = append(s.taken, now)
	case m.Kind == api.MoveSubscribe:
		s.asked[m.Client]++
		s.poor[m.Client] = s.poor[m.Client] || slices.ContainsFunc(m.Asks, func(a api.Ask) bool { return a.QoS < 2 })
	case m.Kind == api.MoveUnsubscribe:
		s.asked[m.Client]++
	case m.Kind == api.MoveUp:
		s.ups[m.Client]++
	}
	s.seen[fmt.Sprint("move ", m.Kind)]++
	return e
}

func (s *story) goes(l ...api.Move) {
	s.t.Helper()
	for _, m := range l {
		if e := s.do(m); e != api.OK {
			s.fault("P18.3", "%+v: %d", m, e)
		}
	}
}

// agreed tells of each lasting client whose Subscribes and Unsubscribes were answered, or are lost, which filters it has.
func (s *story) agreed() map[int][]api.Ask {
	has := map[string][]api.Ask{}
	for _, x := range s.x.Image().Sessions {
		has[x.Client] = x.Subs
	}
	all := map[int][]api.Ask{}
	for i, w := range s.clients {
		if state, _ := s.x.State(i); !w.Clean && state.Open == 0 {
			all[i] = has[w.Name]
		}
	}
	return all
}

// ends: all clients come up, and all is at rest.
func (s *story) ends() {
	s.t.Helper()
	s.goes(rest())
	for i := range s.clients {
		if state, _ := s.x.State(i); state.Phase == api.PhaseDown {
			s.goes(up(i))
		}
	}
	s.goes(rest())
	for i := range s.clients {
		if state, l := s.x.State(i); state.Phase != api.PhaseUp || l != (api.Link{Up: true}) {
			s.fault("P18.5", "client %d: %+v %+v", i, state, l)
		}
	}
}

// settled: nothing is under way (P22.14).
func (s *story) settled() {
	s.t.Helper()
	for i, w := range s.clients {
		if state, _ := s.x.State(i); !w.Clean && state.Under+state.Waiting+state.Open > 0 {
			s.fault("P22.14", "client %d: %+v", i, state)
		}
	}
	for _, x := range s.x.Image().Sessions {
		if len(x.Window.Flight)+len(x.Window.Queue)+len(x.Inbox) > 0 {
			s.fault("P22.14", "%+v", x)
		}
	}
}

// best tells the greatest quality of the filters that match, -1: none does.
func best(l []api.Ask, name string) int {
	best := -1
	for _, a := range l {
		if topic.Match(a.Filter, name) {
			best = max(best, a.QoS)
		}
	}
	return best
}

// once holds what each lasting client was told against P22.7 and P22.8; over: all are up, and all is at rest.
func (s *story) once(over bool) {
	s.t.Helper()
	for i, w := range s.clients {
		if w.Clean {
			continue
		}
		times, first := map[string]int{}, map[string]int{}
		l := s.x.Got(i)
		for at, x := range l {
			name := string(x.Msg.Payload)
			if times[name]++; times[name] == 1 {
				first[name] = at
			}
		}
		last := map[string]string{} // of each row of messages whose order counts the one ahead
		for _, m := range s.taken {
			name := string(m.msg.Payload)
			n := times[name]
			if m.msg.QoS == 2 && n > 1 && !s.poor[i] {
				s.fault("P22.7", "client %d was told %s %d times: %s", i, name, n, told(l))
			}
			subs, agreed := m.subs[i]
			if !agreed || m.asked[i] != s.asked[i] {
				continue
			}
			granted := best(subs, m.msg.Topic)
			if granted < 0 && n > 0 {
				s.fault("P22.4", "client %d was told %s, for which it hadn't asked: %s", i, name, told(l))
			}
			qos := min(granted, m.msg.QoS)
			if qos < 1 {
				continue
			}
			s.seen[fmt.Sprintf("quality %d told %d, lossy %t", qos, min(n, 2), s.lossy)]++
			if over && n == 0 && !s.lossy || n > 1 && qos == 2 {
				s.fault("P22.7", "client %d was told %s, of quality %d, %d times: %s", i, name, qos, n, told(l))
			}
			row := fmt.Sprint(m.by, m.msg.Topic, m.msg.QoS)
			ahead, there := last[row]
			if last[row] = name; there && n > 0 && !s.lossy && (times[ahead] == 0 || first[ahead] > first[name]) {
				s.fault("P22.8", "client %d was told %s ahead of %s: %s", i, name, ahead, told(l))
			}
		}
	}
}

// room tells how much may come to wait at most, by P22.7.
func (s *story) room() int {
	n := 0
	for _, m := range s.moves {
		switch {
		case m.Kind != api.MovePublish || m.Msg.QoS == 0:
		case m.Msg.QoS == 1:
			n += 1 + s.ups[m.Client]
		default:
			n++
		}
	}
	return n
}

func someStory(t *testing.T, r *rand.Rand) *story {
	t.Helper()
	c := api.Config{List: r.Intn(2) == 0, Cache: 3, Window: someOf(r, 1, 1, 2, 3, 9), Queue: api.MaxQueue, Subs: 9, Retained: 9, Sessions: api.MaxSessions, Most: 1000}
	var l []api.Who
	for i := range 1 + r.Intn(4) {
		w := api.Who{Name: fmt.Sprint("c", i), KeepAlive: someOf(r, 0, 0, 1, 2, 3, 9), Window: someOf(r, 1, 1, 2, 3, 9)}
		if r.Intn(6) == 0 {
			w = clean(w)
		}
		if w.Clean && r.Intn(2) == 0 {
			w.Name = ""
		}
		l = append(l, w)
	}
	s := newStory(t, c, l)
	if r.Intn(6) == 0 {
		c.Queue = r.Intn(4)
		s = newStory(t, c, l)
		s.lossy = true
	}
	return s
}

// begin lets most clients agree upon filters, these at least of a quality.
func (s *story) begin(r *rand.Rand, least int) {
	for i := range s.clients {
		s.goes(up(i))
	}
	s.goes(rest())
	for i := range s.clients {
		if r.Intn(8) > 0 {
			s.goes(subscribe(i, s.asks(r, least)...))
		}
	}
	s.goes(rest())
}

func (s *story) asks(r *rand.Rand, least int) []api.Ask {
	l := []api.Ask{ask(someOf(r, "t", "#", "t/#", "+"), least+r.Intn(3-least))}
	if r.Intn(3) == 0 {
		l = append(l, ask(someOf(r, "t/u", "+/u", "#"), least+r.Intn(3-least)))
	}
	return l
}

// move tells what happens next; asks: also Subscribes and Unsubscribes; kept: also retained messages.
func (s *story) move(r *rand.Rand, least int, asks, kept bool) api.Move {
	n := r.Intn(len(s.clients))
	_, l := s.x.State(n)
	if !l.Up && r.Intn(6) == 0 {
		return up(n)
	}
	switch r.Intn(40) {
	case 0:
		return cut(n)
	case 1:
		return fade(n)
	case 2:
		return someOf(r, leave(n), tick(), cut(n), fade(n))
	case 3:
		return someOf(r, reboot(), rest(), tick(), tick())
	case 4, 5:
		if asks && r.Intn(4) == 0 {
			return someOf(r, subscribe(n, s.asks(r, least)...), unsubscribe(n, someOf(r, "t", "#", "t/#")))
		}
		return tick()
	case 6, 7, 8, 9, 10:
		m := msg(someOf(r, "t", "t/u", "t"), fmt.Sprint("m", len(s.moves)), someOf(r, 0, 1, 1, 2, 2, 2))
		m.Retain = kept && r.Intn(10) == 0
		return publish(n, m)
	case 11, 12, 13, 14, 15, 16, 17, 18, 19, 20, 21, 22, 23, 24:
		return in(n, someOf(r, 1, 2, 4, 7, 11, all))
	}
	return out(n, someOf(r, 1, 2, 4, 7, 11, all))
}

// TestOnceAndInOrder: whatever moves there are, at the end each message has come, of quality 2 just once, and in order; and nothing is left (P22.7, P22.8, P22.14, P18.5, P18.6).
func TestOnceAndInOrder(t *testing.T) {
	r := rand.New(rand.NewSource(182))
	seen := map[string]int{}
	for n := range 1200 {
		s := someStory(t, r)
		least, asks, kept := r.Intn(3), n%3 == 0, n%4 == 0
		s.begin(r, least)
		for range r.Intn(400) {
			s.do(s.move(r, least, asks, kept))
		}
		s.once(false)
		s.ends()
		s.once(true)
		s.settled()
		for i := range s.clients {
			answered(t, s.x, i)
		}
		for what, n := range s.seen {
			seen[what] += n
		}
	}
	want := []string{"quality 2 told 1, lossy false", "quality 1 told 1, lossy false", "quality 1 told 2, lossy false", "quality 2 told 0, lossy true", "quality 2 told 1, lossy true"}
	for kind := api.MoveUp; kind <= api.MoveRest; kind++ {
		want = append(want, fmt.Sprint("move ", kind))
	}
	for _, what := range want {
		if seen[what] < 100 {
			t.Errorf("%s: %d times", what, seen[what])
		}
	}
}

// TestRoom: with just as much room as P22.7 names nothing is lost, and nothing shows of it.
func TestRoom(t *testing.T) {
	r := rand.New(rand.NewSource(183))
	for range 200 {
		s := someStory(t, r)
		least := r.Intn(3)
		s.begin(r, least)
		for range r.Intn(300) {
			s.do(s.move(r, least, false, false))
		}
		s.ends()
		c := s.c
		c.Queue = s.room()
		if s.lossy {
			continue
		}
		again := newStory(t, c, s.clients)
		for _, m := range s.moves {
			again.do(m)
		}
		again.once(true)
		again.settled()
		for i := range s.clients {
			if got, want := told(again.x.Got(i)), told(s.x.Got(i)); got != want {
				again.fault("P22.7", "client %d: with room for %d it was told %s; want %s", i, c.Queue, got, want)
			}
		}
	}
}

// TestNoRoom: one more than there is room for is lost, the newest.
func TestNoRoom(t *testing.T) {
	for _, queue := range []int{0, 1, 5} {
		c := wide()
		c.Queue = queue
		p := newPlace(t, c, who("a"), who("b"))
		p.goes(up(0), up(1), rest(), subscribe(0, ask("t", 2)), rest(), cut(0))
		want := []api.Told{}
		for i := range queue + 2 {
			m := msg("t", fmt.Sprint(i), 2)
			p.goes(publish(1, m), rest())
			if i < queue {
				want = append(want, api.Told{Msg: m})
			}
		}
		p.goes(up(0), rest())
		p.got(0, told(want))
	}
}

// TestEveryOrder: a message is published, or two are; then any few moves; then all come up and rest. Moves that can't be, or that carry nothing, are left out: without them it is another order.
func TestEveryOrder(t *testing.T) {
	steps := []api.Move{in(0, all), out(0, all), in(1, all), out(1, all), cut(0), cut(1), fade(0), fade(1), up(0), up(1), reboot(), leave(1)}
	count := 0
	for _, first := range []int{1, 2} {
		for messages := 1; messages <= 2; messages++ {
			count += everyOrder(t, steps, first, messages, nil, 6-messages)
		}
	}
	if count < 5000 {
		t.Errorf("%d orders", count)
	}
}

// everyOrder plays an order and, if it ended with a move that did something, all that begin with it and have so many moves more; it tells how many there were.
func everyOrder(t *testing.T, steps []api.Move, qos, messages int, order []api.Move, more int) int {
	t.Helper()
	c := wide()
	c.Window = 1
	s := newStory(t, c, []api.Who{who("a"), {Name: "b", Window: 2}})
	s.goes(up(0), up(1), rest(), subscribe(0, ask("t", 2)), rest())
	for i := range messages {
		s.goes(publish(1, msg("t", fmt.Sprint("m", i), qos)))
	}
	for i, m := range order {
		_, l := s.x.State(m.Client)
		e := s.do(m)
		if idle := m.Kind == api.MoveIn && l.In == 0 || m.Kind == api.MoveOut && l.Out == 0; i == len(order)-1 && (e != api.OK || idle) {
			return 0
		}
	}
	s.once(false)
	s.ends()
	s.once(true)
	s.settled()
	count := 1
	for _, m := range steps {
		if more > 0 {
			count += everyOrder(t, steps, qos, messages, append(slices.Clone(order), m), more-1)
		}
	}
	return count
}

// TestEveryByte: the publisher's link breaks behind each byte of its line in, or the other client's behind each of its line out, in each way.
func TestEveryByte(t *testing.T) {
	for qos := 1; qos <= 2; qos++ {
		for _, breaks := range []func(client int) []api.Move{
			func(client int) []api.Move { return []api.Move{cut(client), up(client)} },
			func(client int) []api.Move { return []api.Move{fade(client), up(client)} },
			func(client int) []api.Move { return []api.Move{reboot(), up(0), up(1)} },
		} {
			for i := range 40 {
				for j := range 24 {
					s := newStory(t, wide(), []api.Who{who("a"), who("b")})
					s.goes(up(0), up(1), rest(), subscribe(0, ask("t", 2)), rest())
					s.goes(publish(1, msg("t", "x", qos)), publish(1, msg("t", "y", qos)), in(1, i))
					s.goes(breaks(1)...)
					s.goes(in(1, all), out(1, all), in(1, all), out(0, j))
					s.goes(breaks(0)...)
					s.ends()
					s.once(true)
					s.settled()
				}
			}
		}
	}
}

// TestManyClients: as many as there may be, all of them told all.
func TestManyClients(t *testing.T) {
	var l []api.Who
	for i := range api.MaxClients {
		l = append(l, who(fmt.Sprint("c", i)))
	}
	s := newStory(t, wide(), l)
	s.begin(rand.New(rand.NewSource(184)), 2)
	for i := range l {
		s.goes(publish(i, msg("t", fmt.Sprint("m", i), 1+i%2)))
	}
	s.goes(rest(), reboot())
	s.ends()
	s.once(true)
	s.settled()
	if n := s.seen["quality 2 told 1, lossy false"]; n < 1000 {
		t.Errorf("%d were told", n)
	}
}
