package broker_test

import (
	"fmt"
	"math"
	"strings"
	"testing"

	"crier/api"
)

// taken: Take is answered so.
func (d *desk) taken(promise string, n int, want string, l ...api.Input) {
	d.t.Helper()
	if got := d.take(n, l...); got != want {
		d.fault(promise, "%s; want %s", got, want)
	}
}

func inputs(l ...api.Packet) (out []api.Input) {
	for _, p := range l {
		out = append(out, input(p))
	}
	return out
}

// TestTake: as Bytes of which its conn answers these.
func TestTake(t *testing.T) {
	d := newDesk(t, wide())
	d.taken("P16.4: it isn't open", 1, "", inputs(hello("a"))...)
	d.wants("P16.1", opens(1), "")
	d.taken("P16.4: nothing", 1, "")
	d.taken("P16.4", 1, "1 connack 0; 1 suback #1 [1]; 1 publish t=x q1 #1; 1 puback #3", inputs(hello("a"), subscribe(1, ask("t", 1)), publish(msg("t", "x", 1), 3))...)
	d.says("P16.4: bytes again", 1, "1 pingresp", kind(api.Pingreq, 0))
	d.taken("P16.4", 1, "1 pingresp; 1 closed", inputs(kind(api.Pingreq, 0), kind(api.Disconnect, 0), kind(api.Pingreq, 0))...)
	d.taken("P16.4: it is closed", 1, "", inputs(hello("a"))...)
	d.comes("P16.4", 1, hello("a"), "1 connack 0 present; 1 publish t=x q1 #1 dup")
	d.taken("P16.4", 1, "1 pubrec #7; 1 pubcomp #7; 1 unsuback #2", inputs(publish(msg("u", "", 2), 7), kind(api.Pubrel, 7), kind(api.Puback, 1), unsubscribe(2, "t"))...)
	d.wants("P16.4", opens(2), "")
	d.taken("P16.4: replaced", 2, "1 closed; 2 connack 0 present", inputs(hello("a"))...)
	d.taken("P16.4: behind an end", 1, "", inputs(kind(api.Pingreq, 0))...)
}

// TestTakeRefuses: a Connect that the broker itself refuses ends all.
func TestTakeRefuses(t *testing.T) {
	c := wide()
	c.Sessions, c.Users = 1, []api.User{{Name: "u", Word: "w"}}
	d := newDesk(t, c)
	d.wants("P16.1", opens(1), "")
	d.taken("P16.4", 1, "1 connack 2; 1 closed", inputs(hello(""), kind(api.Pingreq, 0), hello("a"))...)
	d.wants("P16.1", opens(1), "")
	d.taken("P16.4", 1, "1 connack 4; 1 closed", inputs(hello("a"), kind(api.Pingreq, 0))...)
	d.wants("P16.1", opens(1), "")
	d.taken("P16.4", 1, "1 connack 1; 1 closed", append([]api.Input{{What: api.InRefuse, Code: 1}}, inputs(hello("a"))...)...)
	d.wants("P16.1", opens(1), "")
	d.taken("P16.4: Most is looked at first", 1, "1 closed", inputs(hello(strings.Repeat("x", 10000)))...)
}

// couldNot: inputs that no conn can answer, of a fresh connection, of a joined one.
func couldNot(t *testing.T) (fresh, joined []api.Input) {
	will := willed(hello("z"), retained("w", "x", 1))
	both := []api.Input{{}, {What: api.InEnd}, {What: api.InEnd, Err: api.ErrConnFirst}, {What: api.InEnd, Packet: hello("z"), Code: 1}}
	for _, what := range []int{-1, 0, 4, 256 + 1, math.MaxInt, math.MinInt} {
		both = append(both, api.Input{What: what, Packet: kind(api.Pingreq, 0)}, api.Input{What: what, Packet: will}, api.Input{What: what, Code: 1})
	}
	for _, code := range []int{-1, 0, 2, 3, 4, 5, 257} {
		both = append(both, api.Input{What: api.InRefuse, Code: code})
	}
	both = append(both, api.Input{What: api.InRefuse, Code: 1, Err: 30}, api.Input{What: api.InRefuse, Code: 1, Packet: kind(api.Pingreq, 0)})
	long := func(n int) string { return strings.Repeat("l", n) }
	for _, p := range []api.Packet{
		{}, {Kind: -1}, {Kind: 15}, {Kind: math.MaxInt}, {Kind: math.MinInt}, {Kind: api.Pingreq, ID: 1}, {Kind: api.Publish},
		publish(msg("#", "", 0), 0), publish(msg("t", "", 1), 0), publish(msg("t", "", 0), 1), publish(msg("t", "", 3), 1), publish(msg("t", "", -1), 1), publish(msg("t", "", 1), 65536),
		publish(msg("t", long(9998), 0), 0), publish(msg("t", long(9996), 1), 1), subscribe(1), subscribe(1, ask("a", 3)), subscribe(1, ask("a", 0), ask("#/", 0)), subscribe(0, ask("a", 0)), unsubscribe(1), unsubscribe(1, "+a"),
		unsubscribe(1, long(9997)), subscribe(1, ask(long(9996), 0)), kind(api.Puback, 0), kind(api.Puback, 65536), kind(api.Pubrel, -1),
		kind(api.Connack, 0), {Kind: api.Suback, ID: 1, Codes: []int{1}}, kind(api.Unsuback, 1), kind(api.Pingresp, 0),
		hello("\x00"), hello("\xFF"), willed(hello("z"), msg("+", "", 0)), {Kind: api.Connect, Level: 4, Client: "z", HasPass: true}, {Kind: api.Connect, Level: 4, Client: "z", Pass: []byte("p")},
		{Kind: api.Connect, Level: 4, Client: "z", KeepAlive: 65536}, {Kind: api.Connect, Level: 4, Client: "z", KeepAlive: -1}, hello(long(9989)), {Kind: api.Connect, Level: 3, Client: "z"}, {Kind: api.Connect, Client: "z"}, {Kind: api.Connect, Level: 256, Client: "z"},
	} {
		both = append(both, input(p))
	}
	stray := func(in api.Input) []api.Input {
		a, b := in, in
		a.Code, b.Err = 1, 30
		return []api.Input{a, b}
	}
	fresh = append(fresh, stray(input(hello("z")))...)
	for _, p := range []api.Packet{publish(msg("t", "", 0), 0), kind(api.Puback, 1), kind(api.Pubrec, 1), kind(api.Pubrel, 1), kind(api.Pubcomp, 1), subscribe(1, ask("a", 0)), unsubscribe(1, "a"), kind(api.Pingreq, 0), kind(api.Disconnect, 0)} {
		fresh = append(fresh, input(p))
		joined = append(joined, stray(input(p))...)
	}
	joined = append(joined, input(hello("z")), input(will), input(clean("")), api.Input{What: api.InRefuse, Code: 1})
	return append(fresh, both...), append(joined, both...)
}

// TestTakeEnds: an input that its conn couldn't answer there counts as an InEnd; what is behind it is passed over.
func TestTakeEnds(t *testing.T) {
	fresh, joined := couldNot(t)
	d := newDesk(t, wide())
	d.up("a")
	d.says("P16.1", 0, "0 suback #1 [1]", subscribe(1, ask("w", 1)))
	for _, in := range fresh {
		d.wants("P16.1", opens(1), "")
		d.taken(fmt.Sprintf("P16.4: fresh, %.200s", fmt.Sprintf("%+v", in)), 1, "1 closed", append([]api.Input{in}, inputs(hello("z"), kind(api.Pingreq, 0))...)...)
	}
	if d.m.homes["z"] != nil {
		t.Error("P16.4: there is a session of z")
	}
	for i, in := range joined {
		will := fmt.Sprintf("0 publish w=%d q1 #%d", i, i+1)
		d.comes("P16.4", 1, willed(clean("b"), msg("w", fmt.Sprint(i), 1)), "1 connack 0")
		d.taken(fmt.Sprintf("P16.4, P22.13: joined, %.200s", fmt.Sprintf("%+v", in)), 1, "1 pingresp; 1 closed; "+will, append(append(inputs(kind(api.Pingreq, 0)), in), inputs(kind(api.Pingreq, 0))...)...)
		d.says("P16.4", 0, "", kind(api.Puback, i+1))
	}
}

// TestTakeAtMost: a packet as long as may be.
func TestTakeAtMost(t *testing.T) {
	d := newDesk(t, wide())
	d.wants("P16.1", opens(1), "")
	d.taken("P16.4", 1, "1 connack 0", input(hello(strings.Repeat("l", 10000-12))))
	d.taken("P16.4", 1, "1 puback #1; 1 pingresp", inputs(publish(msg("t", strings.Repeat("l", 10000-5), 1), 1), kind(api.Pingreq, 0))...)
	d.taken("P16.4", 1, "1 closed", inputs(publish(msg("t", strings.Repeat("l", 10000-4), 1), 1), kind(api.Pingreq, 0))...)
	for most, counts := range map[int]int{math.MinInt: 2, -1: 2, 0: 2, 1: 2, 2: 2, 11: 11, 12: 12, 13: 13, math.MaxInt: math.MaxInt} {
		c := wide()
		c.Most = most
		d := newDesk(t, c)
		want := func(least int, s string) string {
			if counts < least {
				return "1 closed"
			}
			return s
		}
		d.wants("P16.1", opens(1), "")
		d.taken("P16.4: of a refusal no length is told", 1, "1 connack 1; 1 closed", api.Input{What: api.InRefuse, Code: 1})
		d.wants("P16.1", opens(1), "")
		d.taken("P16.4", 1, want(12, "1 connack 0"), input(clean("")))
		d.do(opens(1))
		d.do(closes(1))
		d.do(opens(1))
		d.taken("P16.4", 1, want(13, "1 connack 0"), input(hello("a")))
	}
}

// TestTakeKeepsBytes: no byte is taken, and none that came is lost; the silence ends all the same.
func TestTakeKeepsBytes(t *testing.T) {
	c := wide()
	c.Patience = 2
	d := newDesk(t, c)
	p := hello("a")
	p.KeepAlive = 2
	d.wants("P16.1", opens(1), "")
	d.wants("P16.1", data(1, "\xC0"), "")
	d.wants("P16.4", tick(), "")
	d.wants("P16.4", tick(), "")
	d.taken("P16.4", 1, "1 connack 0", input(p))
	for range 3 {
		d.wants("P16.4", tick(), "")
		d.wants("P16.4", tick(), "")
		d.wants("P16.4", tick(), "")
		d.taken("P16.4: the silence ends", 1, "1 pingresp", input(kind(api.Pingreq, 0)))
	}
	d.wants("P16.4", data(1, "\x00"), "1 pingresp")
	d.wants("P16.4", tick(), "")
	d.wants("P16.4", tick(), "")
	d.wants("P16.4", tick(), "")
	d.wants("P16.4", tick(), "1 closed")
}
