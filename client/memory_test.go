package client_test

import (
	"runtime"
	"strings"
	"testing"

	"crier/api"
	"crier/client"
)

// TestGotApart: no two lists of an answer share any memory, nor does an earlier answer with a later one.
func TestGotApart(t *testing.T) {
	c := linked(t, api.Who{Name: "a"})
	want := []api.Told{}
	for _, s := range []string{"one", "two", "", "four"} {
		c.Push([]byte(encoded(t, publish(msg("t", s, 0), 0))))
		want = append(want, api.Told{Msg: msg("t", s, 0)})
	}
	first, second := c.Got(), c.Got()
	spoilTold(first)
	if !sameTold(second, want) {
		t.Errorf("DOC 3: %s", toldText(second))
	}
	for i := range second {
		if !sameTold(second[i:], want[i:]) {
			t.Errorf("DOC 3: %s", toldText(second))
		}
		fill(second[i].Msg.Payload, 0xF0)
	}
	got(t, "DOC 3", c, want...)
}

// TestBytesApart: what was answered stays as it was.
func TestBytesApart(t *testing.T) {
	c := made(t, api.Who{Name: "a", KeepAlive: 1, Window: 2})
	var answers [][]byte
	lay := func(b []byte, _ api.Errno) { answers = append(answers, b) }
	for range 3 {
		lay(c.Up())
		lay(c.Push([]byte("\x20\x02\x00\x00")), 0)
		lay(c.Publish(msg("t", "x", 1)))
		lay(c.Publish(msg("t", "y", 0)))
		lay(c.Subscribe([]api.Ask{{Filter: "a"}}))
		lay(c.Unsubscribe([]string{"a"}))
		lay(c.Push([]byte("\x32\x05\x00\x01t\x00\x01\x34\x05\x00\x01t\x00\x01")), 0)
		lay(c.Tick(), 0)
		lay(c.Leave())
	}
	was := make([]string, len(answers))
	for i, b := range answers {
		was[i] = string(b)
	}
	for i, b := range answers {
		if string(b) != was[i] {
			t.Errorf("DOC 3: answer %d: %X; want %X", i, b, was[i])
		}
		fill(b, 0xF0)
	}
}

// TestHandedIn: nothing of it is changed, nor kept.
func TestHandedIn(t *testing.T) {
	c := linked(t, api.Who{Name: "a", Window: 1})
	payload := []byte("payload, and what is behind")
	m := api.Message{Topic: "t", Payload: payload[:7], QoS: 2}
	asks := []api.Ask{{Filter: "a", QoS: 1}, {Filter: "b"}, {Filter: "c"}}
	filters := []string{"a", "b", "c"}
	for range 2 {
		c.Publish(m)
	}
	c.Subscribe(asks[:2])
	c.Unsubscribe(filters[:2])
	came := []byte(encoded(t, publish(msg("u", "came", 0), 0), kind(api.Pubrec, 1)) + "\x30behind")
	c.Push(came[:len(came)-6])
	if string(payload) != "payload, and what is behind" || asks[0] != ask("a", 1) || asks[2] != ask("c", 0) || strings.Join(filters, "") != "abc" || !strings.HasSuffix(string(came), "\x50\x02\x00\x01\x30behind") {
		t.Errorf("DOC 3: %s, %v, %v, %X", payload, asks, filters, came)
	}
	fill(payload, 0xF0)
	fill(came, 0xF0)
	got(t, "DOC 3", c, api.Told{Msg: msg("u", "came", 0)})
	says(t, "DOC 3", c, "\x08\x00\x01tcame?\xD0\x00")
	got(t, "DOC 3", c, api.Told{Msg: msg("u", "came", 0)}, api.Told{Msg: msg("t", "came?", 0)})
	says(t, "DOC 3", c, "\x70\x02\x00\x01", publish(msg("t", "payload", 2), 4))
}

// rough: by how many bytes what held tells may be wrong.
const rough = 1 << 20

// held tells how many bytes the program has, garbage aside.
func held() int {
	var s runtime.MemStats
	runtime.GC()
	runtime.GC()
	runtime.ReadMemStats(&s)
	return int(s.HeapAlloc)
}

func small(t *testing.T, why string, before int, c *client.Client) {
	t.Helper()
	if n := held() - before; n > rough {
		t.Errorf("LANGUAGE 8: %s: %d bytes are kept", why, n)
	}
	runtime.KeepAlive(c)
}

// piece tells a short text that lies in a great one.
func piece(s string) string { return (strings.Repeat("l", 8<<20) + s)[8<<20:] }

// TestPieces: of texts and lists that are handed in, and that lie in great ones, just what is needed is kept.
func TestPieces(t *testing.T) {
	before := held()
	c := linked(t, api.Who{Name: piece("a"), Window: 1})
	small(t, "a name", before, c)
	for range 2 {
		c.Publish(api.Message{Topic: piece("t"), Payload: append(make([]byte, 0, 8<<20), 'x'), QoS: 1})
	}
	small(t, "messages", before, c)
	c.Subscribe([]api.Ask{{Filter: piece("f")}})
	c.Unsubscribe([]string{piece("f")})
	small(t, "filters", before, c)
	c.Push(append(make([]byte, 0, 8<<20), "\x30\x04\x00\x01tx\xD0"...))
	small(t, "what came", before, c)
}

// TestForgotten: what isn't needed any more isn't kept: half a packet, behind an end or ahead of it, and messages that were acknowledged.
func TestForgotten(t *testing.T) {
	const much = 8 << 20
	half := []byte("\x30\xFF\xFF\xFF\x7F" + strings.Repeat("h", much))
	wrong := append([]byte("\xC0\x00"), half...)
	before := held()
	c := made(t, api.Who{Name: "a", Window: 1})
	for _, way := range []struct {
		name string
		end  func()
	}{
		{"Down", func() { c.Push(half); c.Down() }},
		{"Leave", func() { c.Push(half); c.Leave() }},
		{"a wrong packet", func() { c.Push(wrong) }},
	} {
		c.Up()
		c.Push([]byte("\x20\x02\x00\x00"))
		way.end()
		stands(t, way.name, c, api.State{})
		small(t, way.name, before, c)
		c.Push(half)
		small(t, way.name+", and bytes behind it", before, c)
	}
	c.Up()
	c.Push([]byte("\x20\x02\x00\x00"))
	c.Push(half)
	if n := held() - before; n < much {
		t.Errorf("P17.5: of half a packet %d bytes are held", n)
	}
	c.Down()
	c.Up()
	c.Push([]byte("\x20\x02\x00\x00"))
	for qos := 1; qos <= 2; qos++ {
		c.Publish(api.Message{Topic: "t", Payload: make([]byte, much), QoS: qos})
	}
	c.Push([]byte("\x40\x02\x00\x01\x50\x02\x00\x02"))
	stands(t, "acknowledged", c, api.State{Phase: 2, Under: 1})
	small(t, "acknowledged", before, c)
	runtime.KeepAlive(half)
	runtime.KeepAlive(wrong)
}

// lives tells how many bytes some clients have that are told as many messages as there are numbers, at that quality, each beside a Subscribe of theirs, and then something else.
func lives(t *testing.T, w api.Who, qos int, then func(c *client.Client)) int {
	t.Helper()
	before := held()
	many := make([]*client.Client, 4)
	for i := range many {
		c := linked(t, w)
		many[i] = c
		for id := 1; id < api.MaxID; id++ {
			if qos == 0 {
				c.Push([]byte("\x30\x03\x00\x01t"))
				continue
			}
			c.Subscribe([]api.Ask{{Filter: "a"}})
			c.Push([]byte{0x34, 5, 0, 1, 't', byte(id >> 8), byte(id)})
		}
		then(c)
	}
	n := held() - before
	runtime.KeepAlive(many)
	return n
}

// TestNumbersForgotten: of numbers that were noted, and of Subscribes, nothing is kept when they are free.
func TestNumbersForgotten(t *testing.T) {
	lasting, clean := api.Who{Name: "a", Window: 1}, api.Who{Name: "a", Clean: true, Window: 1}
	plain := lives(t, lasting, 0, func(*client.Client) {})
	full := lives(t, lasting, 2, func(*client.Client) {})
	if full < plain+3*rough {
		t.Errorf("with all numbers %d bytes, with none %d", full, plain)
	}
	answered := lives(t, lasting, 2, func(c *client.Client) {
		for id := 1; id <= api.MaxID; id++ {
			c.Push([]byte{0x62, 2, byte(id >> 8), byte(id), 0x90, 3, byte(id >> 8), byte(id), 0})
		}
	})
	anew := lives(t, lasting, 2, func(c *client.Client) {
		c.Down()
		c.Up()
		c.Push([]byte("\x20\x02\x00\x00"))
	})
	cleaned := lives(t, clean, 2, func(c *client.Client) {
		c.Leave()
		c.Up()
	})
	for what, n := range map[string]int{"answered": answered, "a new session": anew, "a clean one": cleaned} {
		if n > plain+rough {
			t.Errorf("LANGUAGE 8: %s: %d bytes are kept; of no numbers %d", what, n, plain)
		}
	}
}
