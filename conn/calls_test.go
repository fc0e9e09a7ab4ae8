package conn_test

import (
	"errors"
	"math"
	"slices"
	"strings"
	"testing"

	"crier/api"
	"crier/codec"
	"crier/conn"
	"crier/packet"
)

// TestExamplePackets: the chapter's first example.
func TestExamplePackets(t *testing.T) {
	c := conn.New(1000, 0)
	push(c, "\x10\x0C\x00\x04MQTT\x04\x02\x00\x0A\x00\x00\xC0")
	wantNext(t, "example 1", c, taken(api.Packet{Kind: api.Connect, Level: 4, Clean: true, KeepAlive: 10}))
	wantNone(t, "example 1", c)
	push(c, "\x00")
	wantNext(t, "example 1", c, taken(api.Packet{Kind: api.Pingreq}))
	if n := firstLate(t, "example 1", c, 20); n != 16 {
		t.Errorf("example 1: late at tick %d", n)
	}
}

// TestExampleEnds: the chapter's second example.
func TestExampleEnds(t *testing.T) {
	for _, x := range []struct {
		b    string
		want []api.Input
	}{
		{"\xC0\x00", []api.Input{ended(api.ErrConnFirst)}},
		{"\x10\x0C\x00\x04MQTT\x05\x02\x00\x0A\x00\x00", []api.Input{{What: api.InRefuse, Code: 1}}},
		{hello(t, 4, 0) + "\xD0\x00", []api.Input{taken(connect(4, 0)), ended(api.ErrConnKind)}},
		{hello(t, 4, 0) + "\xE0\x00\xE0\x00", []api.Input{taken(connect(4, 0)), taken(api.Packet{Kind: api.Disconnect})}},
	} {
		c := conn.New(1000, 0)
		push(c, x.b)
		for _, want := range x.want {
			wantOver(t, "example 2", c, false)
			wantNext(t, "example 2", c, want)
		}
		wantOver(t, "example 2", c, true)
		wantNone(t, "example 2", c)
	}
}

// TestExamplePatience: the chapter's third example.
func TestExamplePatience(t *testing.T) {
	if n := firstLate(t, "example 3", conn.New(1000, 3), 9); n != 4 {
		t.Errorf("example 3: late at tick %d", n)
	}
}

// extremes: numbers at and beyond all bounds.
func extremes() []int {
	return []int{math.MinInt, -1 << 31, -1, 0, 1, 2, 3, 100, 65535, 65536, api.MaxLength, api.MaxLength + 1, 1<<31 - 1, math.MaxInt}
}

// TestNew: fresh, whatever it is made of.
func TestNew(t *testing.T) {
	for _, most := range extremes() {
		for _, patience := range extremes() {
			c := conn.New(most, patience)
			if c == nil {
				t.Fatalf("P14.1: New(%d, %d): nil", most, patience)
			}
			wantOver(t, "P14.1", c, false)
			wantNone(t, "P14.1", c)
			for _, b := range [][]byte{nil, {}, make([]byte, 0, 9)} {
				c.Push(b)
				wantNone(t, "P14.1", c)
			}
			push(c, "\xC0\x00")
			wantNext(t, "P14.1", c, ended(140))
			wantOver(t, "P14.1", c, true)
		}
	}
}

// TestMost: a length of most is taken, one above it isn't; below 2 it counts as 2, above MaxLength as it.
func TestMost(t *testing.T) {
	for _, most := range extremes() {
		counts := min(max(most, 2), api.MaxLength)
		if counts > 200 {
			continue
		}
		b := encoded(t, api.Packet{Kind: api.Puback, ID: 9})
		if counts > 2 {
			b = encoded(t, api.Packet{Kind: api.Publish, Msg: api.Message{Topic: "t", Payload: make([]byte, counts-3)}})
		}
		c := conn.New(most, 0)
		c.Took(taken(connect(4, 0)))
		push(c, b)
		if in, ok := c.Next(); !ok || in.What != api.InPacket {
			t.Errorf("P14.1: most %d: of %d bytes: %s", most, len(b), told(in))
		}
		push(c, string([]byte{0x40, byte(counts + 1)}))
		wantNext(t, "P14.1", c, ended(32))
	}
	for _, most := range []int{api.MaxLength, api.MaxLength + 1, math.MaxInt} {
		c := conn.New(most, 0)
		push(c, "\x10\xFF\xFF\xFF\x7F")
		wantNone(t, "P14.1", c)
		wantOver(t, "P14.1", c, false)
	}
	for _, most := range []int{12, 11} {
		c := conn.New(most, 0)
		push(c, "\x10\x0C\x00\x04MQTT\x04\x02\x00\x0A\x00\x00")
		if in, ok := c.Next(); !ok || in.What != map[int]int{12: api.InPacket, 11: api.InEnd}[most] {
			t.Errorf("P14.1: a Connect of length 12, most %d: %s", most, told(in))
		}
	}
}

// TestFirstPackets: what comes first, of each kind.
func TestFirstPackets(t *testing.T) {
	for kind, p := range kinds() {
		if kind == 0 {
			continue
		}
		c := fresh()
		push(c, encoded(t, p)+"\xC0\x00")
		if kind != api.Connect {
			wantNext(t, "P14.2: first "+packet.Name(kind), c, ended(api.ErrConnFirst))
			wantOver(t, "P14.2: first "+packet.Name(kind), c, true)
			wantNone(t, "P14.2: first "+packet.Name(kind), c)
			continue
		}
		wantNext(t, "P14.2: first a Connect", c, taken(p))
		wantOver(t, "P14.2: first a Connect", c, false)
		wantNext(t, "P14.2: behind a Connect", c, taken(api.Packet{Kind: api.Pingreq}))
		wantNone(t, "P14.2: behind all", c)
	}
}

// TestLevels: a Connect of each level; only 4 is taken.
func TestLevels(t *testing.T) {
	for level := range 256 {
		c := conn.New(1000, 0)
		push(c, hello(t, level, 5)+"\xC0\x00")
		if level == 4 {
			wantNext(t, "P14.2: level 4", c, taken(connect(4, 5)))
			continue
		}
		wantNext(t, "P14.2: another level", c, api.Input{What: api.InRefuse, Code: api.BadLevel})
		wantOver(t, "P14.2: another level", c, true)
		wantNone(t, "P14.2: another level", c)
	}
}

// TestLaterPackets: what comes behind a Connect, of each kind, and then once more.
func TestLaterPackets(t *testing.T) {
	for kind, p := range kinds() {
		if kind == 0 {
			continue
		}
		c := conn.New(1000, 0)
		push(c, hello(t, 4, 0)+encoded(t, p)+encoded(t, p)+"\xC0\x00")
		wantNext(t, "P14.2", c, taken(connect(4, 0)))
		what := "P14.2: later " + packet.Name(kind)
		over := true
		switch kind {
		case api.Connect:
			wantNext(t, what, c, ended(api.ErrConnTwice))
		case api.Connack, api.Suback, api.Unsuback, api.Pingresp:
			wantNext(t, what, c, ended(api.ErrConnKind))
		case api.Disconnect:
			wantNext(t, what, c, taken(p))
		default:
			wantNext(t, what, c, taken(p))
			wantNext(t, what+" again", c, taken(p))
			wantNext(t, what, c, taken(api.Packet{Kind: api.Pingreq}))
			over = false
		}
		wantOver(t, what, c, over)
		wantNone(t, what, c)
		push(c, "\xC0\x00")
		if over {
			wantNone(t, what, c)
		} else {
			wantNext(t, what, c, taken(api.Packet{Kind: api.Pingreq}))
		}
	}
}

// TestSecondConnect: of whatever level, it is a second one.
func TestSecondConnect(t *testing.T) {
	for _, level := range []int{0, 3, 4, 5, 255} {
		c := joined()
		push(c, hello(t, level, 0))
		wantNext(t, "P14.2", c, ended(api.ErrConnTwice))
		wantOver(t, "P14.2", c, true)
	}
}

// TestFaults: the frame's errors are told as they are, ahead of what a packet might have been, with their last byte and not sooner, fresh or joined.
func TestFaults(t *testing.T) {
	for _, f := range faults() {
		for _, made := range []func() *conn.Conn{fresh, joined} {
			c := made()
			for i := range f.b {
				wantNone(t, "P14.2", c)
				wantOver(t, "P14.2", c, false)
				push(c, f.b[i:i+1])
			}
			wantOver(t, "P14.2", c, false)
			wantNext(t, "P14.2", c, ended(f.e))
			wantOver(t, "P14.2", c, true)
			for range 3 {
				wantNone(t, "P14.2", c)
				push(c, f.b)
			}
		}
	}
}

// TestFaultsTable: the table of faults is the codec's.
func TestFaultsTable(t *testing.T) {
	for _, f := range faults() {
		if _, _, err := codec.Decode([]byte(f.b), 100); !errors.Is(err, f.e) {
			t.Errorf("P3.2: Decode of %X: %v; want %d", f.b, err, f.e)
		}
	}
}

// TestNotWhole: of a packet that isn't whole nothing is told, may it come or not.
func TestNotWhole(t *testing.T) {
	for kind, p := range kinds() {
		if kind == 0 {
			continue
		}
		for _, made := range []func() *conn.Conn{fresh, joined} {
			c := made()
			b := encoded(t, p)
			for i := range b {
				wantNone(t, "P14.2", c)
				wantNone(t, "P14.2", c)
				wantOver(t, "P14.2", c, false)
				push(c, b[i:i+1])
			}
			if in, ok := c.Next(); !ok || in.What == 0 {
				t.Errorf("P14.2: a whole %s: %s, %t", packet.Name(kind), told(in), ok)
			}
		}
	}
}

// TestOnlyNextTells: a packet that is there and wasn't asked for has no effect.
func TestOnlyNextTells(t *testing.T) {
	c := conn.New(1000, 3)
	push(c, hello(t, 4, 100)+"\xE0\x00")
	if n := firstLate(t, "P14.3", c, 9); n != 4 {
		t.Errorf("P14.3: late at tick %d of patience 3", n)
	}
	wantOver(t, "P14.1", c, false)
	wantNext(t, "P14.2", c, taken(connect(4, 100)))
	wantOver(t, "P14.1", c, false)
	wantNext(t, "P14.2", c, taken(api.Packet{Kind: api.Disconnect}))
	wantOver(t, "P14.1", c, true)
}

// TestPatience: the first tick at which a fresh conn is late.
func TestPatience(t *testing.T) {
	for _, patience := range []int{math.MinInt, -100, -1, 0, 1, 2, 3, 10, 1000, math.MaxInt - 1, math.MaxInt} {
		want := 0
		if patience > 0 && patience < 2000 {
			want = patience + 1
		}
		if n := firstLate(t, "P14.3", conn.New(100, patience), 2000); n != want {
			t.Errorf("P14.3: late at tick %d of patience %d", n, patience)
		}
	}
}

// TestKeepAlive: the first tick at which a joined conn is late, whatever its patience was.
func TestKeepAlive(t *testing.T) {
	keeps := []int{999, 1000, 32767, 32768, 65533, 65534, 65535}
	for k := range 40 {
		keeps = append(keeps, k)
	}
	for _, keep := range keeps {
		for _, patience := range []int{0, 1, 1000000} {
			want := 0
			for n := 1; keep > 0 && want == 0; n++ {
				if float64(n) > 1.5*float64(keep) {
					want = n
				}
			}
			c := conn.New(100, patience)
			c.Tick()
			push(c, hello(t, 4, keep))
			c.Next()
			if n := firstLate(t, "P14.3", c, 100000); n != want {
				t.Errorf("P14.3: late at tick %d of keep-alive %d, patience %d; want %d", n, keep, patience, want)
			}
		}
	}
}

// TestSilenceEnds: each packet that is taken ends it, late or not; being late ends nothing.
func TestSilenceEnds(t *testing.T) {
	for _, kind := range []int{3, 4, 5, 6, 7, 8, 10, 12} {
		c := conn.New(100, 1)
		c.Tick()
		push(c, hello(t, 4, 4))
		c.Next()
		for _, ticks := range []int{0, 1, 6, 7, 8, 100} {
			for i := range ticks {
				if c.Tick() != (i >= 6) {
					t.Fatalf("P14.3: behind %s: tick %d", packet.Name(kind), i)
				}
			}
			wantOver(t, "P14.3", c, false)
			push(c, encoded(t, kinds()[kind]))
			wantNext(t, "P14.3", c, taken(kinds()[kind]))
		}
		if n := firstLate(t, "P14.3", c, 9); n != 7 {
			t.Errorf("P14.3: behind %s late at tick %d", packet.Name(kind), n)
		}
	}
}

// TestSilenceGoesOn: bytes that are no whole packet don't end it, nor does asking for one.
func TestSilenceGoesOn(t *testing.T) {
	c := conn.New(100, 0)
	push(c, hello(t, 4, 2))
	c.Next()
	for i, s := range []string{"", "\x40", "\x02", "\x00"} {
		push(c, s)
		wantNone(t, "P14.3", c)
		if c.Tick() != (i == 3) {
			t.Errorf("P14.3: tick %d", i)
		}
	}
	push(c, "\x01")
	if !c.Tick() {
		t.Error("P14.3: a packet that wasn't asked for ends the silence")
	}
	wantNext(t, "P14.3", c, taken(api.Packet{Kind: api.Puback, ID: 1}))
	if c.Tick() || c.Tick() || c.Tick() || !c.Tick() {
		t.Error("P14.3: behind a packet")
	}

	f := conn.New(100, 2)
	b := hello(t, 4, 1)
	for i := range 5 {
		push(f, b[i:i+1])
		wantNone(t, "P14.3", f)
		if f.Tick() != (i >= 2) {
			t.Errorf("P14.3: fresh: tick %d", i)
		}
	}
}

// allInputs: what may be told by Took, by whether it ends a conn, and whether it joins it.
func allInputs() []struct {
	in          api.Input
	ends, joins bool
} {
	type row = struct {
		in          api.Input
		ends, joins bool
	}
	var l []row
	for kind, p := range kinds() {
		l = append(l, row{taken(p), kind == api.Disconnect, kind == api.Connect})
		for _, what := range []int{0, -1, api.InRefuse, api.InEnd, 4, math.MinInt, math.MaxInt} {
			l = append(l, row{api.Input{What: what, Packet: p, Code: 1, Err: 5}, true, false})
		}
	}
	for _, kind := range []int{-1, 15, math.MinInt, math.MaxInt, 16 + api.Connect, 256 + api.Disconnect} {
		p := kinds()[api.Connect]
		p.Kind = kind
		l = append(l, row{taken(p), false, false})
	}
	for _, level := range []int{-1, 0, 3, 5, 256 + 4} {
		l = append(l, row{taken(connect(level, 7)), false, true})
	}
	l = append(l, row{api.Input{What: api.InPacket, Packet: connect(4, 7), Code: 9, Err: 9}, false, true})
	return append(l, row{taken(api.Packet{Kind: api.Disconnect, Level: 4, KeepAlive: 3}), true, false})
}

// TestTookFresh: each input told to a fresh conn: what it says of itself, which packet it takes, when it is late.
func TestTookFresh(t *testing.T) {
	for _, x := range allInputs() {
		c := conn.New(100, 5)
		for range 4 {
			c.Tick()
		}
		push(c, "\xC0\x00")
		c.Took(x.in)
		what := "P14.4: fresh, " + told(x.in)
		wantOver(t, what, c, x.ends)
		late := map[bool]int{false: 6, true: 11}[x.joins]
		if x.ends {
			late = 0
		}
		if n := firstLate(t, what, c, 20); n != late {
			t.Errorf("%s: late at tick %d; want %d", what, n, late)
		}
		switch {
		case x.ends:
			wantNone(t, what, c)
		case x.joins:
			wantNext(t, what, c, taken(api.Packet{Kind: api.Pingreq}))
		default:
			wantNext(t, what, c, ended(140))
		}
	}
}

// TestTookJoined: the same, told to a joined one of keep-alive 2; a Connect brings a keep-alive anew.
func TestTookJoined(t *testing.T) {
	for _, x := range allInputs() {
		c := conn.New(100, 5)
		c.Took(taken(connect(4, 2)))
		for range 3 {
			c.Tick()
		}
		push(c, "\xC0\x00")
		c.Took(x.in)
		what := "P14.4: joined, " + told(x.in)
		wantOver(t, what, c, x.ends)
		late := map[bool]int{false: 4, true: 11}[x.joins]
		if x.ends {
			late = 0
		}
		if n := firstLate(t, what, c, 20); n != late {
			t.Errorf("%s: late at tick %d; want %d", what, n, late)
		}
		if x.ends {
			wantNone(t, what, c)
		} else {
			wantNext(t, what, c, taken(api.Packet{Kind: api.Pingreq}))
			push(c, hello(t, 4, 0))
			wantNext(t, what, c, ended(141))
		}
	}
}

// ways: how a conn comes to be over, each from fresh or joined.
func ways(t *testing.T) map[string]func(c *conn.Conn) {
	pushed := func(s string) func(*conn.Conn) {
		return func(c *conn.Conn) {
			push(c, s)
			for _, ok := c.Next(); ok; _, ok = c.Next() {
			}
		}
	}
	return map[string]func(*conn.Conn){
		"Stop":        (*conn.Conn).Stop,
		"a fault":     pushed("\xF0"),
		"a kind":      pushed("\xD0\x00"),
		"two":         pushed(hello(t, 4, 1) + hello(t, 4, 1)),
		"a level":     pushed(hello(t, 5, 1)),
		"Disconnect":  pushed("\xE0\x00"),
		"an end told": func(c *conn.Conn) { c.Took(ended(5)) },
		"one refused": func(c *conn.Conn) { c.Took(api.Input{What: api.InRefuse, Code: 4}) },
		"one goes":    func(c *conn.Conn) { c.Took(taken(api.Packet{Kind: api.Disconnect})) },
		"nothing":     func(c *conn.Conn) { c.Took(api.Input{}) },
	}
}

// TestOver: of one that is over nothing happens, by whatever call, and however it came to be so.
func TestOver(t *testing.T) {
	for name, way := range ways(t) {
		for keep := -1; keep < 2; keep++ {
			for _, ticks := range []int{0, 1, 5} {
				c := conn.New(100, 1)
				if keep >= 0 {
					c.Took(taken(connect(4, keep)))
				}
				for range ticks {
					c.Tick()
				}
				way(c)
				wantOver(t, "P14.1: "+name, c, true)
				for _, x := range allInputs() {
					c.Took(x.in)
					wantOver(t, "P14.4: "+name+", "+told(x.in), c, true)
					push(c, hello(t, 4, 1)+"\xC0\x00\xF0")
					wantNone(t, "P14.2: "+name, c)
					if c.Tick() {
						t.Errorf("P14.3: %s: Tick: true", name)
					}
					c.Stop()
					wantOver(t, "P14.4: "+name, c, true)
				}
				if n := firstLate(t, "P14.3: "+name, c, 100); n != 0 {
					t.Errorf("P14.3: %s: late at tick %d", name, n)
				}
			}
		}
	}
}

// TestStop: what was pushed and not asked for is told no more.
func TestStop(t *testing.T) {
	for _, b := range []string{"", "\x10", hello(t, 4, 1), hello(t, 4, 1) + "\xC0\x00", hello(t, 5, 1), "\xF0"} {
		for asked := range 2 {
			c := fresh()
			push(c, b)
			for range asked {
				c.Next()
			}
			c.Stop()
			wantOver(t, "P14.4", c, true)
			for range 3 {
				wantNone(t, "P14.4", c)
			}
		}
	}
}

// TestTookBounds: a keep-alive beyond its bounds counts as the nearest.
func TestTookBounds(t *testing.T) {
	// Three times the second one is 4, wrapped round.
	for _, keep := range []int{math.MinInt, (4 - 1<<64) / 3, -65535, -2, -1, 0, 1, 2, 65534, 65535, 65536, 1 << 31, math.MaxInt/3 + 1, math.MaxInt/2 + 2, math.MaxInt} {
		c := conn.New(100, 1)
		c.Took(taken(connect(4, keep)))
		want := 0
		if counts := min(max(keep, 0), 65535); counts > 0 {
			want = counts + counts/2 + 1
		}
		if n := firstLate(t, "P14.4", c, 100000); n != want {
			t.Errorf("P14.4: keep-alive %d: late at tick %d; want %d", keep, n, want)
		}
	}
}

// TestTookTakesNoByte: what is held stays, also half a packet, and is told in its turn.
func TestTookTakesNoByte(t *testing.T) {
	all := encoded(t, kinds()[api.Subscribe]) + "\xC0\x00\xE0\x00"
	for cut := range len(all) + 1 {
		c := fresh()
		push(c, all[:cut])
		c.Took(taken(connect(4, 0)))
		c.Took(taken(kinds()[api.Publish]))
		push(c, all[cut:])
		for _, kind := range []int{api.Subscribe, api.Pingreq} {
			wantNext(t, "P14.4", c, taken(kinds()[kind]))
			c.Took(taken(kinds()[api.Pubrel]))
		}
		wantNext(t, "P14.4", c, taken(kinds()[api.Disconnect]))
		wantNone(t, "P14.4", c)
	}
}

// TestTwoConns: what one is told the other one doesn't know.
func TestTwoConns(t *testing.T) {
	a, b := conn.New(2, 1), conn.New(100, 3)
	push(a, "\xC0")
	push(b, hello(t, 4, 0)[:5])
	push(a, "\x00")
	a.Tick()
	wantNone(t, "P14.1", b)
	wantNext(t, "P14.1", a, ended(140))
	wantOver(t, "P14.1", b, false)
	push(b, hello(t, 4, 0)[5:])
	wantNext(t, "P14.1", b, taken(connect(4, 0)))
	c := conn.New(2, 0)
	push(c, "\x10\x0C")
	wantNext(t, "P14.1", c, ended(32))
	push(b, "\xC0\x00")
	wantNext(t, "P14.1", b, taken(api.Packet{Kind: api.Pingreq}))
	late := []bool{}
	d, e := conn.New(100, 1), conn.New(100, 2)
	for range 3 {
		late = append(late, d.Tick(), e.Tick())
	}
	if !slices.Equal(late, []bool{false, false, true, false, true, true}) {
		t.Errorf("P14.3: %v", late)
	}
}

// TestLongPackets: texts and payloads at their bounds.
func TestLongPackets(t *testing.T) {
	name := strings.Repeat("n", api.MaxText)
	p := api.Packet{Kind: api.Connect, Level: 4, Client: name, HasWill: true, Will: api.Message{Topic: name, Payload: []byte(name)}, HasUser: true, User: name, HasPass: true, Pass: []byte(name)}
	q := api.Packet{Kind: api.Publish, Msg: api.Message{Topic: name, Payload: make([]byte, 3<<20)}}
	c := conn.New(api.MaxLength, 0)
	push(c, encoded(t, p)+encoded(t, q)[:70000])
	wantNext(t, "P14.2", c, taken(p))
	wantNone(t, "P14.2", c)
	push(c, encoded(t, q)[70000:])
	wantNext(t, "P14.2", c, taken(q))
	wantNone(t, "P14.2", c)
}
