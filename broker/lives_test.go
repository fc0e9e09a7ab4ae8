package broker_test

import (
	"fmt"
	"math/rand"
	"testing"

	"crier/api"
)

// someOf picks one.
func someOf[T any](r *rand.Rand, l ...T) T { return l[r.Intn(len(l))] }

func someTopic(r *rand.Rand) string {
	return someOf(r, "a", "b", "a/b", "a/", "/", "a/b/c", "$s", "$s/a", "c", "/a", "b/b")
}

func someFilter(r *rand.Rand) string {
	return someOf(r, "a", "b", "a/b", "#", "+", "a/#", "+/b", "a/+", "+/+", "$s/#", "$s", "+/#", "/#", "a/+/c", "c", "b/#", "/")
}

func someMessage(r *rand.Rand, name string) api.Message {
	m := msg(someTopic(r), name, r.Intn(3))
	m.Retain = r.Intn(3) == 0
	if r.Intn(6) == 0 {
		m.Payload = nil
	}
	return m
}

func someConfig(r *rand.Rand) api.Config {
	c := api.Config{
		Window:   someOf(r, -1, 0, 1, 1, 2, 3, 4, 100),
		Queue:    someOf(r, -1, 0, 1, 2, 3, 8, 100),
		Subs:     someOf(r, -1, 0, 1, 2, 3, 4, 5, 6, 7, 8, 100),
		Retained: someOf(r, -1, 0, 1, 2, 3, 4, 5, 100),
		Sessions: someOf(r, -1, 0, 1, 2, 3, 4, 5, 6, 7, 100, 100, 100),
		Most:     someOf(r, 40, 1000, 1<<40, 1<<40),
		Patience: someOf(r, -1, 0, 0, 1, 3, 8),
	}
	if r.Intn(8) == 0 {
		c.Users = []api.User{{Name: "u", Word: "w"}, {Name: "v", Word: ""}, {Name: "", Word: "x"}}
	}
	return c
}

func someConnect(r *rand.Rand, c api.Config, name string) api.Packet {
	p := api.Packet{Kind: api.Connect, Level: 4, Client: someOf(r, "a", "b", "c", "d", "e"), Clean: r.Intn(3) == 0, KeepAlive: someOf(r, 0, 0, 1, 2, 3, 9)}
	if r.Intn(12) == 0 {
		p.Client, p.Clean = "", r.Intn(4) > 0
	}
	if r.Intn(40) == 0 {
		p.Level = someOf(r, 3, 5)
	}
	if r.Intn(2) == 0 {
		p = willed(p, someMessage(r, name))
	}
	if len(c.Users) > 0 || r.Intn(9) == 0 {
		u := someOf(r, api.User{Name: "u", Word: "w"}, api.User{Name: "u", Word: "w"}, api.User{Name: "u", Word: "w"}, api.User{Name: "v"}, api.User{Name: "", Word: "x"}, api.User{Name: "u", Word: "x"}, api.User{Name: "x", Word: "w"})
		p.HasUser, p.User = r.Intn(12) > 0, u.Name
		p.HasPass, p.Pass = p.HasUser && r.Intn(12) > 0, []byte(u.Word)
		if !p.HasUser {
			p.User = ""
		}
		if !p.HasPass {
			p.Pass = nil
		}
	}
	return p
}

// someID tells a packet number that is often under way to a session, or noted.
func someID(r *rand.Rand, d *desk, n int) int {
	if x := d.m.lines[n]; x != nil && x.joined && r.Intn(8) > 0 {
		if h := d.m.homes[x.key]; len(h.under) > 0 {
			return h.under[r.Intn(len(h.under))].ID
		}
	}
	return someOf(r, 1, 2, 3, 65535)
}

// isFresh tells whether a connection's Connect is to come.
func isFresh(d *desk, n int) bool { return d.m.lines[n] == nil || !d.m.lines[n].joined }

// somePacket tells what a connection may send, right and in turn as a rule.
func somePacket(r *rand.Rand, d *desk, n int, fresh bool) api.Packet {
	name := fmt.Sprint(d.step)
	if fresh != (r.Intn(200) == 0) {
		return someConnect(r, d.m.c, name)
	}
	switch r.Intn(30) {
	case 0, 1, 2, 3, 4, 5, 6, 7:
		p := publish(someMessage(r, name), someOf(r, 1, 2, 3, 65535))
		p.Dup = p.Msg.QoS > 0 && r.Intn(3) == 0
		if p.Msg.QoS == 0 {
			p.ID = 0
		}
		return p
	case 8, 9, 10:
		return kind(api.Puback, someID(r, d, n))
	case 11, 12, 13:
		return kind(api.Pubrec, someID(r, d, n))
	case 14, 15, 16:
		return kind(api.Pubcomp, someID(r, d, n))
	case 17, 18:
		return kind(api.Pubrel, someOf(r, 1, 2, 3, 65535))
	case 19, 20, 21, 22, 23, 24:
		p := subscribe(someOf(r, 1, 9, 65535), ask(someFilter(r), r.Intn(3)))
		for range r.Intn(3) {
			p.Asks = append(p.Asks, ask(someFilter(r), r.Intn(3)))
		}
		return p
	case 25, 26:
		p := unsubscribe(someOf(r, 1, 9, 65535), someFilter(r))
		for range r.Intn(3) {
			p.Filters = append(p.Filters, someFilter(r))
		}
		return p
	case 27:
		return someOf(r, kind(api.Disconnect, 0), kind(api.Pingreq, 0), kind(api.Pingreq, 0))
	case 28:
		if r.Intn(4) > 0 {
			break
		}
		return someOf(r, kind(api.Pingresp, 0), kind(api.Unsuback, 4), api.Packet{Kind: api.Suback, ID: 5, Codes: []int{1}}, kind(api.Connack, 0))
	}
	return kind(api.Pingreq, 0)
}

// broken: bytes that no client may send.
func broken() []string {
	return []string{"\x00", "\xF0", "\xC1", "\x36a", "\x38", "\xC0\x80\x80\x80\x80", "\x40\x03\x00\x0A\x00", "\x40\x02\x00\x00", "\x30\x03\x00\x01#", "\x82\x02\x00\x01", "\x82\x0A\x00\x01\x00\x01a\x00\x00\x01b\x03", "\xE0\x01\x00", "\x10\x02\x00\x00", "\x30\xFF\xFF\xFF\x7F"}
}

// someBytes tells one packet's bytes or those of some at once, seldom broken or unfinished ones.
func someBytes(r *rand.Rand, d *desk, n int) string {
	s := ""
	fresh := isFresh(d, n)
	for range someOf(r, 1, 1, 1, 2, 4) {
		switch r.Intn(200) {
		case 0:
			s += someOf(r, broken()...)
		case 1:
			s += "\xC0\x80\x00"
		case 2:
			s += someOf(r, "\xC0", "\x30", "\x30\x06")
		default:
			s += encoded(d.t, somePacket(r, d, n, fresh))
			fresh = false
		}
	}
	return s
}

// someInput tells what Take may be told: right as a rule.
func someInput(r *rand.Rand, d *desk, n int) api.Input {
	in := input(somePacket(r, d, n, isFresh(d, n)))
	switch r.Intn(60) {
	case 0:
		in = api.Input{What: api.InRefuse, Code: someOf(r, 1, 1, 1, 0, 2, 3, 4, -1)}
	case 1:
		in = api.Input{What: api.InEnd, Err: someOf[api.Errno](r, 0, 30, 140, 142)}
	case 2:
		in.What = someOf(r, 0, 2, 3, 4, -1)
	case 3:
		in.Code = r.Intn(2)
	case 4:
		in.Err = api.Errno(r.Intn(2))
	case 5:
		in.Packet.Kind = someOf(r, 0, 15, -1, 1<<40, 2, 9, 11, 13)
	case 6:
		in.Packet.ID = someOf(r, 0, -1, 65536, 7)
	}
	return in
}

// someStep does something with all.
func someStep(r *rand.Rand, d *desk) {
	d.t.Helper()
	n := someOf(r, 0, 1, 2, 3, 4, 5, 5, 65535, 9)
	if r.Intn(80) == 0 {
		n = someOf(r, -1, 65536, 1<<40, -1<<40, 10)
	}
	if d.m.lines[n] == nil && r.Intn(6) > 0 {
		d.do(opens(n))
	}
	switch k := r.Intn(100); {
	case k < 75:
		d.do(data(n, someBytes(r, d, n)))
	case k < 80:
		d.do(tick())
	case k < 84:
		d.do(closes(n))
	case k < 86:
		d.do(opens(n))
	case k < 88:
		d.do(data(n, ""))
	case k < 89:
		d.do(api.Event{Kind: someOf(r, 0, 5, -1, 1<<40), Conn: n, Data: []byte("\xF0")})
	case k < 98:
		var l []api.Input
		for range someOf(r, 0, 1, 1, 2, 3) {
			l = append(l, someInput(r, d, n))
		}
		d.take(n, l...)
	case r.Intn(10) == 0:
		d.drop()
	case r.Intn(3) == 0:
		d.reborn()
	}
}

// TestLives: scripts of all kinds: brokers by all means answer as the model does, and stand as it does.
func TestLives(t *testing.T) {
	r := rand.New(rand.NewSource(161))
	seen := map[string]int{}
	for range 400 {
		d := newDesk(t, someConfig(r))
		d.seen = seen
		for range 150 {
			someStep(r, d)
		}
	}
	for _, what := range []string{
		"closed", "connack 0", "connack 1", "connack 2", "connack 3", "connack 4", "connack present", "puback", "pubrec", "pubcomp", "suback", "suback [128", "suback 128]", "unsuback", "pingresp",
		"publish", "publish q1", "publish q2", "publish dup", "publish retain", "pubrel",
	} {
		if seen[what] < 100 {
			t.Errorf("in all lives there are but %d of: %s", seen[what], what)
		}
	}
}
