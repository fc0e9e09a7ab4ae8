package pump_test

import (
	"fmt"
	"math/rand"
	"runtime"
	"sync"
	"testing"

	"crier/api"
	"crier/broker"
	"crier/pump"
)

// someOf picks one.
func someOf[T any](r *rand.Rand, l ...T) T { return l[r.Intn(len(l))] }

// life: events that are made up one by one, and how a broker stands that is told them.
type life struct {
	t      *testing.T
	r      *rand.Rand
	c      api.Config
	b      *broker.Broker
	l      []api.Event
	open   map[int]bool
	joined map[int]bool
	left   map[int]string // bytes that are to come
	seen   map[string]int
}

func someConfig(r *rand.Rand) api.Config {
	c := api.Config{
		List:     r.Intn(2) == 0,
		Cache:    someOf(r, -1, 0, 1, 5),
		Window:   someOf(r, -1, 1, 2, 3, 100),
		Queue:    someOf(r, -1, 0, 1, 3, 100),
		Subs:     someOf(r, 0, 1, 3, 100, 100),
		Retained: someOf(r, 0, 1, 3, 100),
		Sessions: someOf(r, 1, 2, 3, 4, 100, 100),
		Most:     someOf(r, 30, 100, 1000, 1<<40),
		Patience: someOf(r, -1, 0, 1, 2, 5),
	}
	if r.Intn(6) == 0 {
		c.Users = []api.User{{Name: "u", Word: "w"}}
	}
	return c
}

func newLife(t *testing.T, r *rand.Rand, seen map[string]int) *life {
	c := someConfig(r)
	return &life{t: t, r: r, c: c, b: broker.New(c), open: map[int]bool{}, joined: map[int]bool{}, left: map[int]string{}, seen: seen}
}

// do tells the broker an event, and notes what becomes of it.
func (x *life) do(e api.Event) {
	x.l = append(x.l, e)
	switch e.Kind {
	case api.Open:
		if x.open[e.Conn] {
			x.seen["an Open of an open one"]++
		} else if _, was := x.open[e.Conn]; was {
			x.seen["an Open anew"]++
		}
		if !x.open[e.Conn] && x.r.Intn(2) == 0 {
			x.left[e.Conn] = ""
		}
		x.open[e.Conn] = true
	case api.Close:
		x.end(e.Conn)
	}
	for _, o := range x.b.Do(e) {
		switch {
		case o.Closed:
			x.end(o.Conn)
			x.seen["closed by "+fmt.Sprint(e.Kind, e.Conn == o.Conn)]++
		case o.Data[0] == 0x20:
			x.joined[o.Conn] = true
			x.seen["connack "+fmt.Sprint(o.Data[3])]++
		case o.Conn != e.Conn && e.Kind == api.Bytes:
			x.seen["passed on"]++
		}
	}
}

func (x *life) end(n int) {
	if x.open[n] {
		x.open[n] = false
	}
	x.joined[n] = false
}

// packet tells what a connection may send, in turn as a rule.
func (x *life) packet(n int) api.Packet {
	r := x.r
	if x.joined[n] == (r.Intn(60) == 0) {
		p := alive(hello(someOf(r, "a", "b", "c", "d")), someOf(r, 0, 0, 1, 2))
		p.Clean = r.Intn(3) == 0
		if r.Intn(10) == 0 {
			p.Client = ""
		}
		if r.Intn(20) == 0 {
			p.Level = 3
		}
		if r.Intn(3) == 0 {
			p = willed(p, msg(someOf(r, "t", "u"), fmt.Sprint(len(x.l)), r.Intn(3)))
		}
		if r.Intn(4) > 0 && len(x.c.Users) > 0 {
			p.HasUser, p.User, p.HasPass, p.Pass = true, "u", true, []byte("w")
		}
		return p
	}
	switch r.Intn(12) {
	case 0, 1, 2:
		return subscribe(1, ask(someOf(r, "t", "#", "+", "u"), r.Intn(3)))
	case 3, 4, 5:
		m := msg(someOf(r, "t", "u"), fmt.Sprint(len(x.l)), r.Intn(3))
		m.Retain = r.Intn(4) == 0
		return publish(m, m.QoS*someOf(r, 1, 2, 3))
	case 6:
		return kind(api.Puback, someOf(r, 1, 2, 3))
	case 7:
		return kind(api.Pubrec, someOf(r, 1, 2, 3))
	case 8:
		return kind(api.Pubcomp, someOf(r, 1, 2, 3))
	case 9:
		return kind(api.Pubrel, someOf(r, 1, 2, 4))
	case 10:
		return someOf(r, kind(api.Disconnect, 0), kind(api.Pingresp, 0), kind(api.Pingreq, 0), kind(api.Pingreq, 0))
	}
	return kind(api.Pingreq, 0)
}

// bytes: some of a connection's bytes come, at times halves of packets.
func (x *life) bytes(n int) {
	for range x.r.Intn(3) {
		x.left[n] += encoded(x.t, x.packet(n))
	}
	if x.r.Intn(50) == 0 {
		x.left[n] += someOf(x.r, "\xFF", "\xC1\x00", "\xC0\x80\x00", "\x40\x02\x00\x00")
	}
	k := len(x.left[n])
	if x.r.Intn(3) == 0 {
		k = x.r.Intn(k + 1)
	}
	piece := x.left[n][:k]
	x.left[n] = x.left[n][k:]
	x.do(data(n, piece))
}

func (x *life) step() {
	r := x.r
	n := someOf(r, 0, 1, 2, 3, 4, api.MaxConn)
	if r.Intn(100) == 0 {
		n = someOf(r, -1, api.MaxConn+1)
	}
	if !x.open[n] && r.Intn(4) > 0 {
		x.do(opens(n))
	}
	switch k := r.Intn(60); {
	case k < 45:
		x.bytes(n)
	case k < 49:
		x.do(tick())
	case k < 52:
		x.do(closes(n))
	case k < 58:
		x.do(opens(n))
	case k < 59:
		x.do(data(n, ""))
	default:
		x.do(api.Event{Kind: someOf(r, 0, 5, -1), Conn: n, Data: []byte("\xFF")})
	}
}

// TestLives: scripts of all kinds: by any number of workers the outputs are the broker's (P19.1, P22.11).
func TestLives(t *testing.T) {
	r := rand.New(rand.NewSource(193))
	seen := map[string]int{}
	for range 800 {
		x := newLife(t, r, seen)
		for range someOf(r, 10, 50, 150) {
			x.step()
		}
		holds(t, "P22.11", x.c, x.l, 1, 2+r.Intn(6), 8, someOf(r, crews()...))
	}
	for _, what := range []string{
		"an Open of an open one", "an Open anew", "passed on", "connack 0", "connack 1", "connack 2", "connack 3", "connack 4",
		fmt.Sprint("closed by ", api.Bytes, true), fmt.Sprint("closed by ", api.Bytes, false), fmt.Sprint("closed by ", api.Tick, false),
	} {
		if seen[what] < 100 {
			t.Errorf("in all lives there are but %d of: %s", seen[what], what)
		}
	}
}

// TestNoPaceShows: however many threads there are, and as often as it is asked, the answer is one (P19.3).
func TestNoPaceShows(t *testing.T) {
	defer runtime.GOMAXPROCS(runtime.GOMAXPROCS(0))
	r := rand.New(rand.NewSource(194))
	l := pieces(t)
	for range 30 {
		x := newLife(t, r, map[string]int{})
		for range 300 {
			x.step()
		}
		for _, threads := range []int{1, 2, 3, 16} {
			runtime.GOMAXPROCS(threads)
			for range 3 {
				holds(t, "P19.3", x.c, x.l, 1, 8, 3)
				reads(t, 1000, l, 8, 2)
			}
		}
	}
}

// TestSideBySide: calls that go on at the same time, of the same lists, don't touch one another (DOC 6).
func TestSideBySide(t *testing.T) {
	r := rand.New(rand.NewSource(195))
	x := newLife(t, r, map[string]int{})
	for range 500 {
		x.step()
	}
	l := pieces(t)
	want := alone(x.c, x.l)
	var all sync.WaitGroup
	for k := range 16 {
		all.Go(func() {
			for i := range 20 {
				if !sameOuts(pump.Run(x.c, x.l, (k+i)%9), want) {
					t.Errorf("DOC 6: %d at once: other outputs than the broker's", k)
				}
				for j, got := range pump.Read(1000, l, (k+i)%9) {
					if !sameInputs(got, inputsOf(1000, l[j])) {
						t.Errorf("DOC 6: %d at once: piece %d is read otherwise", k, j)
					}
				}
			}
		})
	}
	all.Wait()
}
