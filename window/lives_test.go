package window_test

import (
	"fmt"
	"math/rand"
	"slices"
	"testing"

	"crier/api"
	"crier/window"
)

// someStep tells a twin something, and holds it.
func someStep(r *rand.Rand, x *twin, name string) {
	x.t.Helper()
	id := someOf(r, x.m.last, x.m.last-1, 0, -1, 65536, r.Intn(20))
	if len(x.m.flight) > 0 && r.Intn(8) > 0 {
		id = x.m.flight[r.Intn(len(x.m.flight))].ID
	}
	switch n := r.Intn(100); {
	case n < 35:
		m := someMessage(r, name)
		if r.Intn(20) == 0 {
			m.QoS = someOf(r, noQoS()...)
		}
		x.send(m)
	case n < 70:
		x.ack(someOf(r, api.Puback, api.Puback, api.Pubrec, api.Pubrec, api.Pubcomp, api.Pubcomp, r.Intn(16)), id)
	case n < 78:
		x.up()
	case n < 83:
		x.down()
	case n < 91:
		x.reserve()
	default:
		if len(x.m.reserved) > 0 && r.Intn(4) > 0 {
			id = x.m.reserved[r.Intn(len(x.m.reserved))]
		}
		x.free(id)
	}
	x.hold()
}

func TestLongLives(t *testing.T) {
	r := rand.New(rand.NewSource(12))
	for range 400 {
		most, queue := someOf(r, -5, 0, 1, 1, 2, 3, 7, 20), someOf(r, -5, 0, 1, 2, 5, 30)
		x := newTwin(t, most, queue)
		if r.Intn(3) > 0 {
			x = twinOf(t, most, queue, someImage(r, max(most, 1), max(queue, 0)))
		}
		for j := range 200 {
			someStep(r, x, fmt.Sprint(j))
		}
	}
}

// TestNarrowLives: nearly all numbers are under way or reserved, so that a new one must be sought far.
func TestNarrowLives(t *testing.T) {
	r := rand.New(rand.NewSource(13))
	for _, most := range []int{1, 5} {
		x := newTwin(t, most, 5)
		for i := range maxID - most {
			if id, ok := x.w.Reserve(); id != i+1 || !ok {
				t.Fatalf("P12.5: Reserve %d: %d, %t", i, id, ok)
			}
			x.m.reserved = append(x.m.reserved, i+1)
		}
		x.m.last = maxID - most
		for range 12 {
			x.free(1 + r.Intn(maxID))
		}
		for j := range 150 {
			someStep(r, x, fmt.Sprint(j))
		}
	}
}

// TestAllShortLives: all lives of four steps, from each of some beginnings.
func TestAllShortLives(t *testing.T) {
	a, b := note("a", 1), note("b", 2)
	steps := []func(x *twin){
		func(x *twin) { x.send(a) },
		func(x *twin) { x.send(b) },
		func(x *twin) { x.ack(api.Puback, 1) },
		func(x *twin) { x.ack(api.Pubrec, 1) },
		func(x *twin) { x.ack(api.Pubcomp, 1) },
		func(x *twin) { x.ack(api.Puback, 65535) },
		func(x *twin) { x.ack(api.Pubrec, 65535) },
		func(x *twin) { x.ack(api.Pubcomp, 65535) },
		func(x *twin) { x.up() },
		func(x *twin) { x.down() },
		func(x *twin) { x.reserve() },
		func(x *twin) { x.free(1) },
		func(x *twin) { x.free(65535) },
	}
	for _, im := range []api.Window{
		{Last: 65534},
		{Last: 65534, Queue: []api.Message{a, b}},
		{Last: 1, Flight: []api.Flight{{ID: 65535, Msg: a}, {ID: 1, Msg: b}}, Queue: []api.Message{b}},
		{Last: 65535, Flight: []api.Flight{{ID: 1, Released: true}, {ID: 65535, Msg: b}}, Queue: []api.Message{a}},
	} {
		for life := range len(steps) * len(steps) * len(steps) * len(steps) {
			x := twinOf(t, 2, 2, im)
			x.up()
			for rest, i := life, 0; i < 4; i++ {
				steps[rest%len(steps)](x)
				rest /= len(steps)
			}
			x.hold()
		}
	}
}

// course: a window, what it took, and what it launched.
type course struct {
	t               *testing.T
	w               *window.Window
	taken, launched []string
	open            []api.Packet // what was sent, and not yet acknowledged
}

// sent notes what is sent: a Publish without Dup is a launch.
func (c *course) sent(l []api.Packet) {
	for _, p := range l {
		if p.Kind == api.Publish && !p.Dup {
			c.launched = append(c.launched, p.Msg.Topic)
		}
	}
	c.open = append(c.open, l...)
}

// reply acknowledges something that was sent.
func (c *course) reply(at int) {
	p := c.open[at]
	c.open = slices.Delete(c.open, at, at+1)
	switch {
	case p.Kind == api.Pubrel:
		c.sent(c.w.Ack(api.Pubcomp, p.ID))
	case p.Msg.QoS == 2:
		c.sent(c.w.Ack(api.Pubrec, p.ID))
	default:
		c.sent(c.w.Ack(api.Puback, p.ID))
	}
}

func (c *course) step(r *rand.Rand, name string) {
	switch n := r.Intn(10); {
	case n < 4:
		l, ok, _ := c.w.Send(someMessage(r, name))
		if ok {
			c.taken = append(c.taken, name)
		}
		c.sent(l)
	case n < 8 && len(c.open) > 0 && c.w.Online():
		c.reply(r.Intn(len(c.open)))
	case n == 8:
		c.w.Down()
		c.open = nil
	case n == 9:
		c.sent(c.w.Up())
	}
}

// TestEachIsLaunchedOnce: in the order in which they were taken, and all of them at last (P12.9).
func TestEachIsLaunchedOnce(t *testing.T) {
	r := rand.New(rand.NewSource(129))
	lost := 0
	for i := range 2000 {
		c := &course{t: t, w: window.New(someOf(r, 1, 2, 5), someOf(r, 0, 1, 3, 20))}
		n := r.Intn(80)
		for j := range n {
			c.step(r, fmt.Sprint(j))
			if j%20 == 7 {
				c.w.Reserve()
			}
			if k := len(c.launched); k > len(c.taken) || !slices.Equal(c.launched, c.taken[:k]) {
				t.Fatalf("P12.9: life %d: launched %v, taken %v", i, c.launched, c.taken)
			}
		}
		lost += n - len(c.taken)
		for c.w.Flying()+c.w.Waiting() > 0 {
			c.w.Down()
			c.open = nil
			c.sent(c.w.Up())
			for range 1 + r.Intn(5) {
				if len(c.open) > 0 {
					c.reply(r.Intn(len(c.open)))
				}
			}
		}
		if !slices.Equal(c.launched, c.taken) {
			t.Fatalf("P12.9: life %d: at last launched %v, taken %v", i, c.launched, c.taken)
		}
	}
	if lost == 0 {
		t.Error("no message was lost in any life")
	}
}

// TestTwoWindows: windows of the same bounds, and of one image, don't touch one another.
func TestTwoWindows(t *testing.T) {
	r := rand.New(rand.NewSource(122))
	for range 100 {
		im := someImage(r, 4, 4)
		all := []*twin{newTwin(t, 4, 4), newTwin(t, 4, 4), twinOf(t, 4, 4, im), twinOf(t, 4, 4, im)}
		for j := range 200 {
			someStep(r, all[r.Intn(4)], fmt.Sprint(j))
			all[r.Intn(4)].hold()
		}
	}
}
