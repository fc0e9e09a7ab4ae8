package broker_test

import (
	"fmt"
	"math"
	"math/rand"
	"strings"
	"testing"

	"crier/api"
	"crier/broker"
	"crier/codec"
)

// script: a setup and events for a broker of it.
type script struct {
	c      api.Config
	events []api.Event
}

// someScript tells a script that all answer as the model does.
func someScript(t *testing.T, r *rand.Rand, steps int) script {
	d := newDesk(t, someConfig(r))
	s := script{c: d.m.c}
	do := func(e api.Event) {
		s.events = append(s.events, e)
		d.do(e)
	}
	for range steps {
		n := r.Intn(5)
		if d.m.lines[n] == nil {
			do(opens(n))
		}
		switch r.Intn(12) {
		case 0:
			do(tick())
		case 1:
			do(closes(n))
		default:
			do(data(n, someBytes(r, d, n)))
		}
	}
	return s
}

// played tells all that a broker answers to a script, its bytes cut by cut: where the next piece of so many ends.
func (s script) played(c api.Config, cut func(left int) int) string {
	b := broker.New(c)
	var out []api.Out
	for _, e := range s.events {
		for e.Kind == api.Bytes && len(e.Data) > 0 {
			k := cut(len(e.Data))
			out = append(out, b.Do(api.Event{Kind: api.Bytes, Conn: e.Conn, Data: e.Data[:k]})...)
			e.Data = e.Data[k:]
		}
		out = append(out, b.Do(e)...)
	}
	return told(out) + imageText(b.Image())
}

func whole(left int) int { return left }

// TestNoCutShows: however single Bytes are cut (P22.2).
func TestNoCutShows(t *testing.T) {
	r := rand.New(rand.NewSource(163))
	for range 60 {
		s := someScript(t, r, 40)
		want := s.played(s.c, whole)
		for _, size := range []int{1, 2, 3, 7, 50} {
			for _, c := range []func(left int) int{
				func(left int) int { return min(size, left) },
				func(left int) int { return r.Intn(min(size, left) + 1) },
				func(left int) int { return max(1, left-size) },
			} {
				if got := s.played(s.c, c); got != want {
					t.Fatalf("P22.2: %+v, cut by %d:\n%s; want\n%s", s, size, got, want)
				}
			}
		}
	}
}

// TestEveryCut: one event with many packets, a refused one, one that is wrong, a Disconnect, cut at each two places.
func TestEveryCut(t *testing.T) {
	first := encoded(t, willed(hello("a"), msg("t", "will", 1)), subscribe(1, ask("t", 2)), publish(msg("t", "x", 2), 5))
	for _, tail := range []string{"", "\xC0", encoded(t, kind(api.Pubrec, 1), kind(api.Disconnect, 0), kind(api.Pingreq, 0)), "\x40\x03\x00\x01\x00\xC0\x00", encoded(t, hello("b"))} {
		for _, all := range []string{first + tail, encoded(t, hello("")) + tail, strings.Replace(first, "MQTT\x04", "MQTT\x05", 1) + tail} {
			s := script{c: wide(), events: []api.Event{opens(0), data(0, encoded(t, hello("b"), subscribe(1, ask("#", 1)))), opens(1), data(1, all), closes(1)}}
			want := s.played(s.c, whole)
			for i := range len(all) + 1 {
				for j := i; j <= len(all); j += 3 {
					pieces := s
					pieces.events = append(append(s.events[:3:3], data(1, all[:i]), data(1, all[i:j]), data(1, all[j:])), s.events[4:]...)
					if got := pieces.played(s.c, whole); got != want {
						t.Fatalf("P22.2: %X cut at %d and %d:\n%s; want\n%s", all, i, j, got, want)
					}
				}
			}
		}
	}
}

// TestNoRouterShows: by tries with a cache of any size, and by lists (P22.3).
func TestNoRouterShows(t *testing.T) {
	r := rand.New(rand.NewSource(164))
	for range 150 {
		s := someScript(t, r, 60)
		want := s.played(s.c, whole)
		for _, cache := range []int{math.MinInt, 0, 1, 2, 3, 5, 1000, math.MaxInt} {
			for _, list := range []bool{false, true} {
				c := s.c
				c.Cache, c.List = cache, list
				if got := s.played(c, whole); got != want {
					t.Fatalf("P22.3: %+v by a cache of %d, lists %t:\n%s; want\n%s", s, cache, list, got, want)
				}
			}
		}
	}
}

// TestHarmsNobody: behind any life, a connection without a will breaks the rules: its closing is all, and all that outlives it stays (P22.5).
func TestHarmsNobody(t *testing.T) {
	r := rand.New(rand.NewSource(165))
	fresh, joined := faulty(t)
	for range 60 {
		c := someConfig(r)
		c.Sessions, c.Most, c.Users = 100, 10000, nil
		d := newDesk(t, c)
		for range 60 {
			someStep(r, d)
		}
		for range 10 {
			const n = 30
			d.do(opens(n))
			faults := fresh
			if r.Intn(3) > 0 {
				p := hello(someOf(r, "a", "b", "new"))
				p.Clean = r.Intn(2) == 0
				d.do(data(n, encoded(t, p, subscribe(1, ask(someFilter(r), 1)))))
				faults = joined
			}
			was := imageText(d.crew[0].b.Image())
			d.wants("P22.5", data(n, someOf(r, faults...)+"\xC0\x00"), fmt.Sprintf("%d closed", n))
			for _, v := range d.crew {
				if now := imageText(v.b.Image()); now != was {
					d.fault("P22.5", "by %s: %s; was %s", v.name, now, was)
				}
			}
		}
	}
}

// TestSilence: a keep-alive at its bounds: as many ticks as may be, and the first at which it is late (P22.9).
func TestSilence(t *testing.T) {
	for keep, last := range map[int]int{1: 1, 2: 3, 3: 4, 4: 6, 5: 7, 10: 15, 61: 91} {
		d := newDesk(t, wide())
		d.up("a")
		d.says("P22.9", 0, "0 suback #1 [0]", subscribe(1, ask("w", 0)))
		p := willed(clean("b"), msg("w", "x", 1))
		p.KeepAlive = keep
		d.comes("P22.9", 1, p, "1 connack 0")
		for range 3 {
			for range last {
				d.wants(fmt.Sprintf("P22.9: keep-alive %d", keep), tick(), "")
			}
			d.says("P22.9: any packet ends the silence", 1, "", kind(api.Puback, 9))
		}
		for range last {
			d.wants(fmt.Sprintf("P22.9: keep-alive %d", keep), tick(), "")
		}
		d.wants("P22.9: half a packet doesn't", data(1, "\xC0"), "")
		d.wants(fmt.Sprintf("P22.9: keep-alive %d", keep), tick(), "1 closed; 0 publish w=x q0 #0")
		d.wants("P22.13: once", tick(), "")
	}
	d := newDesk(t, wide())
	d.up("a")
	for range 200 {
		d.wants("P22.9: without a keep-alive", tick(), "")
	}
}

// TestSilenceOfAll: a packet in every k ticks, as late as may be, keeps a connection, of whatever kind it is.
func TestSilenceOfAll(t *testing.T) {
	for _, k := range []int{1, 2, 3, 7} {
		d := newDesk(t, wide())
		p := hello("a")
		p.KeepAlive = k
		d.comes("P22.9", 1, p, "1 connack 0")
		for _, p := range []api.Packet{publish(msg("t", "", 0), 0), publish(msg("t", "", 1), 1), publish(msg("t", "", 2), 1), kind(api.Puback, 1), kind(api.Pubrec, 1), kind(api.Pubrel, 1), kind(api.Pubcomp, 1), subscribe(1, ask("a", 0)), unsubscribe(1, "a"), kind(api.Pingreq, 0)} {
			for range k {
				if got := d.do(tick()); got != "" {
					d.fault("P22.9", "keep-alive %d: %s", k, got)
				}
			}
			d.do(data(1, encoded(t, p)))
		}
	}
}

// TestPatience: how long a Connect may take.
func TestPatience(t *testing.T) {
	for patience, last := range map[int]int{1: 1, 2: 2, 3: 3, 10: 10} {
		c := wide()
		c.Patience = patience
		d := newDesk(t, c)
		d.wants("DOC, A tick", opens(1), "")
		d.wants("DOC, A tick", opens(2), "")
		for i := range last {
			d.wants("DOC, A tick", tick(), "")
			d.wants("DOC, A tick: half a packet is none", data(1, string(encoded(t, hello("a"))[i])), "")
		}
		d.says("DOC, A tick: in time", 2, "2 connack 0", hello("b"))
		d.wants("DOC, A tick", tick(), "1 closed")
		for range 3 * patience {
			d.wants("DOC, A tick: behind its Connect none is asked", tick(), "")
		}
	}
	for _, patience := range []int{math.MinInt, -1, 0, math.MaxInt} {
		c := wide()
		c.Patience = patience
		d := newDesk(t, c)
		d.wants("DOC, A tick", opens(1), "")
		for range 100 {
			d.wants("DOC, A tick", tick(), "")
		}
		d.says("DOC, A tick", 1, "1 connack 0", hello("a"))
	}
}

// TestTickOrder: a second passes for all; then the late ones end, by number; their wills find those that end later still open, those that ended offline.
func TestTickOrder(t *testing.T) {
	c := wide()
	c.Patience = 1
	d := newDesk(t, c)
	for _, n := range []int{30, 2, 100, 7} {
		p := willed(hello(fmt.Sprint("c", n)), msg("w", fmt.Sprint(n), 0))
		p.KeepAlive = 1
		d.comes("DOC, A tick", n, p, fmt.Sprintf("%d connack 0", n))
		d.says("DOC, A tick", n, fmt.Sprintf("%d suback #1 [1]", n), subscribe(1, ask("w", 1)))
	}
	d.wants("DOC, A tick", opens(8), "")
	d.wants("DOC, A tick", tick(), "")
	d.wants("DOC, A tick", tick(), "2 closed; 100 publish w=2 q0 #0; 30 publish w=2 q0 #0; 7 publish w=2 q0 #0; 7 closed; 100 publish w=7 q0 #0; 30 publish w=7 q0 #0; 8 closed; 30 closed; 100 publish w=30 q0 #0; 100 closed")
	d.wants("DOC, A tick", tick(), "")
}

// TestWills: passed on once, by each end but a Disconnect; at its quality, retained if it says so (P22.13).
func TestWills(t *testing.T) {
	for qos := range 3 {
		for _, keep := range []bool{false, true} {
			for _, isClean := range []bool{false, true} {
				for _, way := range []string{"Close", "broken", "second Connect", "silence", "replaced", "Disconnect", "Drop"} {
					d := newDesk(t, wide())
					d.up("a")
					d.says(way, 0, "0 suback #1 [2]", subscribe(1, ask("w/#", 2)))
					will := msg("w/x", "y", qos)
					will.Retain = keep
					p := willed(hello("b"), will)
					p.Clean, p.KeepAlive = isClean, 2
					d.comes(way, 1, p, "1 connack 0")
					copied := fmt.Sprintf("0 publish w/x=y q%d #%d", qos, min(qos, 1))
					kept := keep
					switch way {
					case "Close":
						d.wants(way, closes(1), copied)
					case "broken":
						d.wants(way, data(1, "\xF0\xC0\x00"), "1 closed; "+copied)
					case "second Connect":
						d.says(way, 1, "1 closed; "+copied, hello("b"))
					case "silence":
						for range 3 {
							d.wants(way, tick(), "")
						}
						d.wants(way, tick(), "1 closed; "+copied)
					case "replaced":
						d.comes(way, 2, hello("b"), "1 closed; "+copied+"; 2 connack 0"+marked(" present", !isClean))
					case "Disconnect":
						d.says(way, 1, "1 closed", kind(api.Disconnect, 0))
						kept = false
					case "Drop":
						d.drop()
						kept = false
					}
					d.wants("P22.13: once", closes(1), "")
					d.wants("P22.13: once", data(1, "\xF0"), "")
					for range 5 {
						d.wants("P22.13: once", tick(), "")
					}
					d.comes("P22.13: once", 3, hello("b"), marked("2 closed; ", way == "replaced")+"3 connack 0"+marked(" present", !isClean || way == "replaced"))
					d.wants("P22.13: another connection's", closes(3), "")
					if l := d.crew[0].b.Image().Retained; len(l) > 0 != kept {
						d.fault("P22.13", "%s: retained %t", way, !kept)
					}
				}
			}
		}
	}
}

// TestWillTakesAway: one without a payload, with the retain mark.
func TestWillTakesAway(t *testing.T) {
	d := newDesk(t, wide())
	d.up("a")
	d.says("P22.13", 0, "", publish(retained("w", "x", 0), 0))
	d.comes("P22.13", 1, willed(hello("b"), api.Message{Topic: "w", Retain: true}), "1 connack 0")
	if n := len(d.crew[0].b.Image().Retained); n != 1 {
		t.Errorf("P22.13: %d retained ahead of its end", n)
	}
	d.wants("P22.13", closes(1), "")
	if n := len(d.crew[0].b.Image().Retained); n != 0 {
		t.Errorf("P22.13: %d retained", n)
	}
}

// TestAnyBytes: any bytes at all, in any setup: each call answers, and what isn't right ends a connection (P22.12).
func TestAnyBytes(t *testing.T) {
	r := rand.New(rand.NewSource(166))
	good := encoded(t, willed(hello("a"), retained("w", "x", 2)), subscribe(1, ask("#", 2)), publish(retained("t", "x", 2), 5), publish(msg("t", "x", 1), 5), kind(api.Puback, 1), kind(api.Pubrec, 1), kind(api.Pubrel, 5), unsubscribe(3, "#"), kind(api.Pingreq, 0))
	for range 3000 {
		d := newDesk(t, someConfig(r))
		for n := range 3 {
			b := []byte(good)
			for range r.Intn(4) {
				switch i := r.Intn(len(b)); r.Intn(4) {
				case 0:
					b[i] = byte(r.Intn(256))
				case 1:
					b[i] ^= 1 << r.Intn(8)
				case 2:
					b = append(b[:i], b[i+1:]...)
				default:
					b = append(b[:i], append([]byte{byte(r.Intn(256))}, b[i:]...)...)
				}
			}
			if r.Intn(6) == 0 {
				r.Read(b)
			}
			d.do(opens(n))
			d.do(data(n, string(b)))
		}
	}
}

// TestOpenAtThatMoment: in any life an output's connection is open when it comes about, and its packets are those that a broker sends (P16.10).
func TestOpenAtThatMoment(t *testing.T) {
	r := rand.New(rand.NewSource(167))
	for range 100 {
		s := someScript(t, r, 80)
		b := broker.New(s.c)
		open := map[int]bool{}
		for _, e := range s.events {
			if e.Kind == api.Open {
				open[e.Conn] = true
			}
			if e.Kind == api.Close {
				open[e.Conn] = false
			}
			for _, o := range b.Do(e) {
				if !open[o.Conn] {
					t.Fatalf("P16.10: %s", shown(o))
				}
				if o.Closed {
					open[o.Conn] = false
				}
				if o.Closed == (len(o.Data) > 0) {
					t.Fatalf("P16.1: %+v", o)
				}
				if p, n, err := codec.Decode(o.Data, api.MaxLength); !o.Closed && (err != nil || n != len(o.Data) || p.Kind == api.Connect || p.Kind == api.Subscribe || p.Kind == api.Unsubscribe || p.Kind == api.Pingreq || p.Kind == api.Disconnect) {
					t.Fatalf("P16.1: %+v, %v", p, err)
				}
			}
		}
	}
}
