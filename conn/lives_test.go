package conn_test

import (
	"math/rand"
	"slices"
	"strings"
	"testing"

	"crier/api"
	"crier/conn"
)

// TestLives: all calls in any order, held against the model.
func TestLives(t *testing.T) {
	r := rand.New(rand.NewSource(141))
	stood := map[int]int{}
	for range 20000 {
		x := newTwin(t, someOf(r, -1, 2, 12, 13, 60, 200, 1000, 1<<40), someOf(r, -3, 0, 1, 2, 5, 20))
		rest := ""
		for range r.Intn(60) {
			switch r.Intn(24) {
			case 0, 1, 2, 3, 4:
				if rest == "" {
					rest = someBytes(t, r)
				}
				k := someOf(r, 0, min(1, len(rest)), r.Intn(len(rest)+1), len(rest))
				x.push(rest[:k])
				rest = rest[k:]
			case 5, 6, 7, 8, 9, 10:
				x.next()
			case 11, 12:
				x.all()
			case 13:
				x.took(someInput(r))
			case 14:
				if r.Intn(10) == 0 {
					x.stop()
				}
			case 15:
				x.ticks(r.Intn(20))
			default:
				x.tick()
			}
		}
		stood[x.m.stands]++
	}
	for _, way := range []int{isFresh, isJoined, isOver} {
		if stood[way] < 1000 {
			t.Errorf("%d of 20000 conns stand as %d at the end", stood[way], way)
		}
	}
}

// drained: what Next answers till it answers false.
func drained(c *conn.Conn) []api.Input {
	var l []api.Input
	for in, ok := c.Next(); ok; in, ok = c.Next() {
		l = append(l, in)
	}
	return l
}

// TestEveryCut: a connection's bytes cut at each two places: the Inputs are those of all at once.
func TestEveryCut(t *testing.T) {
	r := rand.New(rand.NewSource(142))
	for range 120 {
		all := someBytes(t, r)
		all = all[:min(len(all), 60)]
		c := conn.New(100, 0)
		push(c, all)
		want := drained(c)
		for i := range len(all) + 1 {
			for j := i; j <= len(all); j++ {
				d := conn.New(100, 0)
				var got []api.Input
				for _, s := range []string{all[:i], all[i:j], all[j:]} {
					push(d, s)
					got = append(got, drained(d)...)
				}
				if !sameAll(got, want) || c.Over() != d.Over() {
					t.Fatalf("P14.5: %X cut at %d and %d: %s, over %t; want %s, over %t", all, i, j, toldAll(got), d.Over(), toldAll(want), c.Over())
				}
			}
		}
	}
}

// TestNoCutShows: long ones, cut anywhere, with empty pieces.
func TestNoCutShows(t *testing.T) {
	r := rand.New(rand.NewSource(143))
	for range 3000 {
		all := someBytes(t, r) + someBytes(t, r)
		most := someOf(r, 12, 60, 1000)
		c := conn.New(most, 0)
		push(c, all)
		want := drained(c)
		for range 4 {
			d, size := conn.New(most, 0), someOf(r, 1, 2, 9, 200)
			var got []api.Input
			for rest := all; rest != ""; {
				k := min(r.Intn(size+1), len(rest))
				push(d, rest[:k])
				rest = rest[k:]
				got = append(got, drained(d)...)
			}
			if !sameAll(got, want) || c.Over() != d.Over() {
				t.Fatalf("P14.5: %X: %s; want %s", all, toldAll(got), toldAll(want))
			}
		}
	}
}

// TestOrderOfInputs: at most one is none of InPacket, as the last one; a Connect is first, and no other one; a Disconnect is last.
func TestOrderOfInputs(t *testing.T) {
	r := rand.New(rand.NewSource(144))
	long := 0
	for range 8000 {
		c := conn.New(someOf(r, 12, 100, 1000), 0)
		var l []api.Input
		for range 1 + r.Intn(4) {
			push(c, someBytes(t, r))
			l = append(l, drained(c)...)
		}
		for i, in := range l {
			last := in.What != api.InPacket || in.Packet.Kind == api.Disconnect
			if last && i < len(l)-1 || in.What == api.InPacket && (in.Packet.Kind == api.Connect) != (i == 0) {
				t.Fatalf("P14.6: input %d of %s", i, toldAll(l))
			}
			if last != (i == len(l)-1 && c.Over()) {
				t.Fatalf("P14.6: over %t behind %s", c.Over(), toldAll(l))
			}
			if in.What == api.InPacket && (in.Code != 0 || in.Err != 0) || in.What != api.InPacket && in.Packet.Kind != 0 {
				t.Fatalf("P14.2: %s", told(in))
			}
		}
		if len(l) > 10 {
			long++
		}
	}
	if long < 100 {
		t.Errorf("only %d of 8000 lives are long", long)
	}
}

// TestNeverLate: a client of whom a whole packet comes in every k Ticks, as late as may be or sooner, be it cut or not.
func TestNeverLate(t *testing.T) {
	r := rand.New(rand.NewSource(145))
	client := []int{api.Publish, api.Puback, api.Pubrec, api.Pubrel, api.Pubcomp, api.Subscribe, api.Unsubscribe, api.Pingreq}
	for _, k := range []int{1, 2, 3, 4, 5, 7, 10, 60, 300, 65535} {
		for _, lazy := range []bool{true, false} {
			c := conn.New(1000, 1)
			push(c, hello(t, 4, k))
			c.Next()
			for range min(200, 300000/k) {
				p := kinds()[someOf(r, client...)]
				b := encoded(t, p)
				n := k
				if !lazy {
					n = 1 + r.Intn(k)
				}
				for i := range n {
					if i == n/2 {
						push(c, b[:1])
						wantNone(t, "P14.7", c)
					}
					if c.Tick() {
						t.Fatalf("P14.7: keep-alive %d: late at tick %d of %d", k, i, n)
					}
				}
				push(c, b[1:])
				wantNext(t, "P14.7", c, taken(p))
			}
		}
	}
}

// TestTookAsNext: what Next answers, told to another conn by Took: both are late and over together.
func TestTookAsNext(t *testing.T) {
	r := rand.New(rand.NewSource(146))
	for range 3000 {
		patience := r.Intn(4)
		c, d := conn.New(100, patience), conn.New(someOf(r, 2, 100), patience)
		for rest := someBytes(t, r); rest != ""; {
			k := min(1+r.Intn(30), len(rest))
			push(c, rest[:k])
			rest = rest[k:]
			for _, in := range drained(c) {
				d.Took(in)
			}
			for range r.Intn(12) {
				if late, told := c.Tick(), d.Tick(); late != told {
					t.Fatalf("P14.4: late %t by Next, %t by Took", late, told)
				}
			}
			if c.Over() != d.Over() {
				t.Fatalf("P14.4: over %t by Next, %t by Took", c.Over(), d.Over())
			}
		}
		if !d.Over() {
			push(d, "\xF0")
			wantNext(t, "P14.4: no byte is taken", d, ended(30))
		}
	}
}

// TestMuch: very many packets at once.
func TestMuch(t *testing.T) {
	const many = 500000
	c := conn.New(100, 0)
	push(c, hello(t, 4, 0)+strings.Repeat("\xC0\x00", many)+"\xE0\x00"+strings.Repeat("\xC0\x00", many))
	l := drained(c)
	if len(l) != many+2 || l[0].Packet.Kind != api.Connect || l[many+1].Packet.Kind != api.Disconnect {
		t.Fatalf("P14.2: %d inputs", len(l))
	}
	if slices.ContainsFunc(l[1:many+1], func(in api.Input) bool { return in.What != api.InPacket || in.Packet.Kind != api.Pingreq }) {
		t.Error("P14.2: something else than a Pingreq")
	}
}
