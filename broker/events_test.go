package broker_test

import (
	"fmt"
	"math"
	"strings"
	"testing"

	"crier/api"
	"crier/broker"
	"crier/image"
)

// TestExamples: the chapter's, byte for byte.
func TestExamples(t *testing.T) {
	for _, list := range []bool{false, true} {
		b := broker.New(api.Config{List: list, Cache: 1, Window: 1, Queue: 1, Subs: 2, Retained: 2, Sessions: 3, Most: 1000})
		step := func(e api.Event, want string) {
			t.Helper()
			var got []string
			for _, o := range b.Do(e) {
				got = append(got, strings.TrimSpace(fmt.Sprintf("%d %X%s", o.Conn, o.Data, marked("closed", o.Closed))))
			}
			if s := strings.Join(got, "; "); s != want {
				t.Errorf("examples: %s; want %s", s, want)
			}
		}
		come := func(n int, name, want string) {
			t.Helper()
			step(opens(n), "")
			step(data(n, "\x10\x0D\x00\x04MQTT\x04\x00\x00\x00\x00\x01"+name), want)
		}
		come(1, "a", "1 20020000")
		step(data(1, "\x82\x08\x00\x07\x00\x03t/#\x02"), "1 9003000702")
		come(2, "b", "2 20020000")
		step(data(2, "\x32\x06\x00\x01t\x00\x05x"), "1 3206000174000178; 2 40020005")
		step(data(2, "\x32\x06\x00\x01t\x00\x06x"), "2 40020006")
		step(data(2, "\x32\x06\x00\x01t\x00\x07x"), "2 40020007")
		step(data(1, "\x40\x02\x00\x01"), "1 3206000174000278")
		step(closes(1), "")
		come(3, "a", "3 20020100; 3 3A06000174000278")
		come(4, "b", "2 closed; 4 20020100")
		step(data(3, "\x34\x06\x00\x01u\x00\x09x\x34\x06\x00\x01u\x00\x09x\x62\x02\x00\x09\x62\x02\x00\x09"), "3 50020009; 3 50020009; 3 70020009; 3 70020009")
		step(data(4, "\xC1"), "4 closed")
	}
}

// TestNew: a broker that was told nothing knows nobody.
func TestNew(t *testing.T) {
	for _, c := range []api.Config{{}, wide(), {List: true}, {Sessions: math.MinInt, Window: math.MaxInt, Most: -1}} {
		for _, v := range variants(c) {
			b := broker.New(v.c)
			subs, kept := b.Shapes()
			if im := b.Image(); !image.Same(im, api.Image{}) || !isZeroShape(subs) || !isZeroShape(kept) {
				t.Errorf("P16.1: New(%+v): %s, %+v, %+v", v.c, imageText(im), subs, kept)
			}
			for n := range 3 {
				for kind := 2; kind <= 4; kind++ {
					if l := b.Do(api.Event{Kind: kind, Conn: n, Data: []byte("\xF0")}); len(l) != 0 {
						t.Errorf("P16.1: New(%+v): connection %d is open: %s", v.c, n, told(l))
					}
				}
				if l := b.Take(n, []api.Input{{What: api.InEnd}}); len(l) != 0 {
					t.Errorf("P16.4: New(%+v): connection %d is open: %s", v.c, n, told(l))
				}
			}
		}
	}
}

// TestPassedOver: events of no kind, of no connection, of one that is open or isn't.
func TestPassedOver(t *testing.T) {
	d := newDesk(t, wide())
	d.up("a")
	d.says("P16.1", 0, "0 suback #1 [2]", subscribe(1, ask("#", 2)))
	d.wants("P16.1", data(0, "\xC0"), "")
	for _, kind := range []int{0, 5, -1, 256, math.MaxInt, math.MinInt} {
		for _, n := range []int{0, 1, -1, 65536} {
			d.wants("P16.1: no kind", api.Event{Kind: kind, Conn: n, Data: []byte("\xF0")}, "")
		}
	}
	for _, n := range []int{-1, 65536, math.MaxInt, math.MinInt, 1 << 32, 1<<32 + 1} {
		d.wants("P16.1: no connection", opens(n), "")
		d.wants("P16.1: no connection", data(n, "\xF0"), "")
		d.wants("P16.1: no connection", closes(n), "")
		if got := d.take(n, api.Input{What: api.InEnd}); got != "" {
			t.Errorf("P16.4: no connection: %s", got)
		}
	}
	for _, n := range []int{1, 65535} {
		d.wants("P16.1: it isn't open", data(n, "\xF0"), "")
		d.wants("P16.1: it isn't open", closes(n), "")
	}
	d.wants("P16.1: it is open", opens(0), "")
	d.wants("P16.1: what was begun stays", data(0, "\x00"), "0 pingresp")
	d.wants("P16.1: no bytes", data(0, ""), "")
	d.wants("P16.1: the data of others counts for nothing", api.Event{Kind: api.Tick, Conn: 0, Data: []byte("\xF0")}, "")
	d.wants("P16.1: the data of others counts for nothing", api.Event{Kind: api.Open, Conn: 5, Data: []byte("\xF0")}, "")
	d.wants("P16.1: the data of others counts for nothing", api.Event{Kind: api.Close, Conn: 5, Data: []byte("\xF0")}, "")
	d.wants("P16.1", data(5, "\xF0"), "")
}

// TestNumbers: the first and the last connection.
func TestNumbers(t *testing.T) {
	d := newDesk(t, wide())
	for _, n := range []int{0, 65535} {
		d.comes("P16.1", n, hello(fmt.Sprint("c", n)), fmt.Sprintf("%d connack 0", n))
		d.says("P16.1", n, fmt.Sprintf("%d pingresp", n), kind(api.Pingreq, 0))
	}
	d.comes("P16.3", 1, hello("c65535"), "65535 closed; 1 connack 0 present")
	d.comes("P16.3: a number again", 65535, hello("c0"), "0 closed; 65535 connack 0 present")
	d.comes("P16.3: a number again", 0, hello("c65535"), "1 closed; 0 connack 0 present")
}

// faulty: what ends a fresh connection, and what ends a joined one.
func faulty(t *testing.T) (fresh, joined []string) {
	both := []string{
		"\x00", "\xF0", "\xFF", "\xC1", "\xD1", "\x36", "\x38", "\x3E", "\x60", "\x80", "\xA0", "\x11",
		"\xC0\x80\x80\x80\x80", "\x40\x03\x00\x0A\x00", "\x40\x01\x00", "\xC0\x01\x00", "\xE0\x01\x00", "\x40\x02\x00\x00", "\x62\x02\x00\x00",
		"\x30\x03\x00\x01#", "\x30\x03\x00\x01+", "\x30\x02\x00\x00", "\x30\x04\x00\x02\xFFa", "\x30\x03\x00\x01\x00", "\x32\x05\x00\x01a\x00\x00", "\x30\x91\x4E",
		"\x82\x02\x00\x01", "\x82\x06\x00\x01\x00\x01a\x03", "\x82\x06\x00\x00\x00\x01a\x01", "\x82\x0A\x00\x01\x00\x01a\x01\x00\x01b\x03", "\x82\x0B\x00\x01\x00\x01a\x01\x00\x02b#\x01",
		"\xA2\x02\x00\x01", "\xA2\x09\x00\x01\x00\x01a\x00\x02#b", "\x10\x02\x00\x00",
		"\x10\x0C\x00\x04MQTT\x04\x03\x00\x00\x00\x00", "\x10\x0C\x00\x04MQTX\x04\x02\x00\x00\x00\x00",
	}
	for k := 2; k <= 14; k++ {
		p := api.Packet{Kind: k}
		switch k {
		case api.Publish:
			p.Msg = msg("a", "", 0)
		case api.Subscribe:
			p = subscribe(1, ask("a", 0))
		case api.Unsubscribe:
			p = unsubscribe(1, "a")
		case api.Suback:
			p.ID, p.Codes = 1, []int{0}
		case api.Connack, api.Pingreq, api.Pingresp, api.Disconnect:
		default:
			p.ID = 1
		}
		fresh = append(fresh, encoded(t, p))
		if k == api.Connack || k == api.Suback || k == api.Unsuback || k == api.Pingresp {
			joined = append(joined, encoded(t, p))
		}
	}
	joined = append(joined, encoded(t, hello("a")), encoded(t, clean("")), encoded(t, api.Packet{Kind: api.Connect, Level: 5, Client: "z"}))
	return append(fresh, both...), append(joined, both...)
}

// TestRulesBroken: what ends a connection has no effect but that: nothing that stands behind it is read, and all others stay (P22.5).
func TestRulesBroken(t *testing.T) {
	fresh, joined := faulty(t)
	d := newDesk(t, wide())
	d.up("a", "b")
	d.says("P16.1", 0, "0 suback #1 [2 1]", subscribe(1, ask("a", 2), ask("k", 1)))
	d.says("P16.1", 1, "1 suback #1 [1]", subscribe(1, ask("b", 1)))
	d.says("P16.1", 1, "0 publish a=x q2 #1; 1 pubrec #4", publish(retained("a", "x", 2), 4))
	d.says("P16.1", 0, "1 publish b=y q1 #1; 0 puback #7", publish(msg("b", "y", 1), 7))
	was := imageText(d.m.image())
	stays := func(what string) {
		t.Helper()
		if now := imageText(d.m.image()); now != was {
			d.fault("P22.5", "%s: %s; was %s", what, now, was)
		}
		d.says("P22.5", 0, "0 pingresp", kind(api.Pingreq, 0))
		d.says("P22.5", 1, "1 pingresp", kind(api.Pingreq, 0))
	}
	more := encoded(t, publish(retained("a", "z", 1), 5), subscribe(2, ask("#", 2)), kind(api.Pingreq, 0), hello("z"))
	for _, s := range fresh {
		for _, behind := range []string{"", more} {
			d.wants("P16.2", opens(7), "")
			d.wants("P22.5: "+fmt.Sprintf("%X", s), data(7, s+behind), "7 closed")
			d.wants("P16.2: behind its closing", data(7, more), "")
			d.wants("P16.2: behind its closing", closes(7), "")
			stays(s)
		}
	}
	for _, s := range joined {
		for _, behind := range []string{"", more} {
			d.comes("P16.2", 7, clean("c"), "7 connack 0")
			d.says("P16.2", 7, "7 suback #1 [2]; 7 publish a=x q2 #1 retain", subscribe(1, ask("a", 2)))
			d.wants("P22.5: "+fmt.Sprintf("%X", s), data(7, "\xC0\x00"+s+behind), "7 pingresp; 7 closed")
			d.wants("P16.2: behind its closing", data(7, more), "")
			stays(s)
		}
	}
}

// TestOwnSessionStays: who breaks the rules on a lasting session finds it as it was.
func TestOwnSessionStays(t *testing.T) {
	_, joined := faulty(t)
	d := newDesk(t, wide())
	d.comes("P16.3", 0, hello("a"), "0 connack 0")
	d.says("P16.1", 0, "0 suback #1 [2]; 0 publish a=x q2 #1; 0 pubrec #4", subscribe(1, ask("#", 2)), publish(msg("a", "x", 2), 4))
	d.wants("P16.1", closes(0), "")
	was := imageText(d.m.image())
	for _, s := range joined {
		d.comes("P22.5", 0, hello("a"), "0 connack 0 present; 0 publish a=x q2 #1 dup")
		d.wants("P22.5", data(0, s), "0 closed")
		if now := imageText(d.m.image()); now != was {
			d.fault("P22.5", "%s; was %s", now, was)
		}
	}
}

// TestMost: a packet's length at the bound and one past it, the bound being within its own or beyond them.
func TestMost(t *testing.T) {
	for most, counts := range map[int]int{math.MinInt: 2, -1: 2, 0: 2, 1: 2, 2: 2, 3: 3, 100: 100, 127: 127, 128: 128, api.MaxLength - 1: api.MaxLength - 1, api.MaxLength: api.MaxLength, api.MaxLength + 1: api.MaxLength, math.MaxInt: api.MaxLength} {
		for _, n := range []int{counts, counts + 1} {
			c := wide()
			c.Most = most
			b := broker.New(c)
			head := []byte{0x30}
			for rest := n; ; rest >>= 7 {
				if rest < 128 {
					head = append(head, byte(rest))
					break
				}
				head = append(head, byte(rest)|128)
			}
			b.Do(opens(1))
			want := ""
			if n > counts {
				want = "1 closed"
			}
			if got := told(b.Do(api.Event{Kind: api.Bytes, Conn: 1, Data: head})); got != want {
				t.Errorf("P16.2: most %d: a length of %d: %s; want %s", most, n, got, want)
			}
		}
	}
	d := newDesk(t, api.Config{Most: 20, Sessions: 1})
	d.comes("P16.2", 0, hello("12345678"), "0 connack 0")
	d.says("P16.2", 0, "0 pingresp; 0 puback #1; 0 pingresp", kind(api.Pingreq, 0), publish(msg("t", "123456789012345", 1), 1), kind(api.Pingreq, 0))
	d.says("P16.2", 0, "0 pingresp; 0 closed", kind(api.Pingreq, 0), publish(msg("t", "1234567890123456", 1), 1), kind(api.Pingreq, 0))
	d.comes("P16.2: a Connect too long", 0, hello("123456789"), "0 closed")
}

// TestOutputs: what a connection sends goes to open ones alone, and behind a closing nothing comes (P16.10).
func TestOutputs(t *testing.T) {
	d := newDesk(t, wide())
	d.up("a", "b", "c")
	for n := range 3 {
		d.says("P16.1", n, fmt.Sprintf("%d suback #1 [1]", n), subscribe(1, ask("t", 1)))
	}
	d.says("P16.10", 1, "0 publish t=x q1 #1; 1 publish t=x q1 #1; 2 publish t=x q1 #1; 1 puback #9", publish(msg("t", "x", 1), 9))
	d.wants("P16.10", closes(0), "")
	d.says("P16.10", 1, "1 publish t=y q0 #0; 2 publish t=y q0 #0", publish(msg("t", "y", 0), 0))
	d.says("P16.10", 1, "1 publish t=z q1 #2; 2 publish t=z q1 #2; 1 puback #9; 1 closed", publish(msg("t", "z", 1), 9), kind(api.Disconnect, 0), kind(api.Pingreq, 0))
	d.wants("P16.10", opens(0), "")
	d.wants("P16.10", opens(1), "")
	d.says("P16.10: opened anew, no session's yet", 2, "2 publish t=w q1 #3; 2 puback #9", publish(msg("t", "w", 1), 9))
}
