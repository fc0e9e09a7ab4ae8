package client_test

import (
	"fmt"
	"testing"

	"crier/api"
	"crier/client"
	"crier/conn"
)

// pings tells at which of so many Ticks a Pingreq was sent.
func pings(t *testing.T, c *client.Client, many int) []int {
	t.Helper()
	var l []int
	for i := 1; i <= many; i++ {
		switch b := c.Tick(); string(b) {
		case "\xC0\x00":
			l = append(l, i)
		case "":
		default:
			t.Fatalf("P17.6: Tick: %X", b)
		}
	}
	return l
}

func wantPings(t *testing.T, what string, c *client.Client, many int, want ...int) {
	t.Helper()
	if l := pings(t, c, many); fmt.Sprint(l) != fmt.Sprint(want) {
		t.Errorf("P17.6: %s: a Pingreq at %v; want %v", what, l, want)
	}
}

// TestPings: every k Ticks, if nothing is sent.
func TestPings(t *testing.T) {
	for _, x := range []struct {
		keep, many int
		want       []int
	}{
		{-1, 1000, nil},
		{0, 1000, nil},
		{1, 4, []int{1, 2, 3, 4}},
		{2, 7, []int{2, 4, 6}},
		{3, 10, []int{3, 6, 9}},
		{60, 200, []int{60, 120, 180}},
		{65535, 131070, []int{65535, 131070}},
		{65536, 131071, []int{65535, 131070}},
		{1 << 40, 65536, []int{65535}},
	} {
		for _, clean := range []bool{true, false} {
			c := linked(t, api.Who{Name: "a", Clean: clean, KeepAlive: x.keep})
			wantPings(t, fmt.Sprint("KeepAlive ", x.keep), c, x.many, x.want...)
		}
	}
}

// TestPingsWhileUp: none while it is down or asking; Ticks while it was asking count, those while it was down don't.
func TestPingsWhileUp(t *testing.T) {
	c := made(t, api.Who{Name: "a", KeepAlive: 3})
	wantPings(t, "down", c, 10)
	c.Up()
	wantPings(t, "asking", c, 2)
	says(t, "P17.5", c, "\x20\x02\x00\x00")
	wantPings(t, "two of them while it was asking", c, 5, 1, 4)
	c.Down()
	wantPings(t, "down again", c, 7)
	c.Up()
	says(t, "P17.5", c, "\x20\x02\x00\x00")
	wantPings(t, "none while it was asking", c, 6, 3, 6)
	c.Leave()
	wantPings(t, "gone", c, 7)
	c.Up()
	wantPings(t, "asking", c, 20)
	says(t, "P17.5", c, "\x20\x02\x00\x00")
	wantPings(t, "many while it was asking", c, 5, 1, 4)
}

// TestSent: what is sent begins the count anew; what isn't doesn't.
func TestSent(t *testing.T) {
	const keep = 4
	for _, x := range []struct {
		name string
		do   func(c *client.Client) ([]byte, api.Errno)
	}{
		{"nothing", func(*client.Client) ([]byte, api.Errno) { return nil, 0 }},
		{"Up", (*client.Client).Up},
		{"Publish 0", func(c *client.Client) ([]byte, api.Errno) { return c.Publish(msg("t", "", 0)) }},
		{"Publish 1", func(c *client.Client) ([]byte, api.Errno) { return c.Publish(msg("t", "", 1)) }},
		{"Publish 2", func(c *client.Client) ([]byte, api.Errno) { return c.Publish(msg("t", "", 2)) }},
		{"Publish, which waits", func(c *client.Client) ([]byte, api.Errno) {
			return c.Publish(msg("t", "", 1))
		}},
		{"Publish, wrong", func(c *client.Client) ([]byte, api.Errno) { return c.Publish(msg("t", "", 3)) }},
		{"Subscribe", func(c *client.Client) ([]byte, api.Errno) { return c.Subscribe([]api.Ask{{Filter: "a"}}) }},
		{"Subscribe, wrong", func(c *client.Client) ([]byte, api.Errno) { return c.Subscribe(nil) }},
		{"Unsubscribe", func(c *client.Client) ([]byte, api.Errno) { return c.Unsubscribe([]string{"a"}) }},
		{"Unsubscribe, wrong", func(c *client.Client) ([]byte, api.Errno) { return c.Unsubscribe([]string{"a#"}) }},
		{"Pingresp", func(c *client.Client) ([]byte, api.Errno) { return c.Push([]byte("\xD0\x00")), 0 }},
		{"half", func(c *client.Client) ([]byte, api.Errno) { return c.Push([]byte("\xD0")), 0 }},
		{"a Publish 0 comes", func(c *client.Client) ([]byte, api.Errno) { return c.Push([]byte("\x30\x03\x00\x01t")), 0 }},
		{"a Publish 1 comes", func(c *client.Client) ([]byte, api.Errno) { return c.Push([]byte("\x32\x05\x00\x01t\x00\x01")), 0 }},
		{"a Publish 2 comes", func(c *client.Client) ([]byte, api.Errno) { return c.Push([]byte("\x34\x05\x00\x01t\x00\x01")), 0 }},
		{"a Pubrel and a Pingresp come", func(c *client.Client) ([]byte, api.Errno) { return c.Push([]byte("\x62\x02\x00\x01\xD0\x00")), 0 }},
		{"a Puback comes", func(c *client.Client) ([]byte, api.Errno) { return c.Push([]byte("\x40\x02\x00\x01")), 0 }},
		{"a Pubrec comes", func(c *client.Client) ([]byte, api.Errno) { return c.Push([]byte("\x50\x02\x00\x01")), 0 }},
		{"a Suback comes", func(c *client.Client) ([]byte, api.Errno) { return c.Push([]byte("\x90\x03\x00\x01\x00")), 0 }},
	} {
		for _, busy := range []bool{false, true} {
			c := linked(t, api.Who{Name: "a", KeepAlive: keep, Window: 1})
			if busy {
				c.Publish(msg("t", "", 2))
			}
			wantPings(t, x.name, c, keep-1)
			if b, _ := x.do(c); len(b) > 0 {
				wantPings(t, x.name+", sent", c, keep+1, keep)
			} else {
				wantPings(t, x.name+", not sent", c, keep+1, 1, keep+1)
			}
		}
	}
}

// TestResumed: what is sent with the Connack begins the count anew.
func TestResumed(t *testing.T) {
	c := made(t, api.Who{Name: "a", KeepAlive: 3, Window: 1})
	c.Publish(msg("t", "", 1))
	c.Up()
	wantPings(t, "asking", c, 2)
	says(t, "P17.5", c, "\x20\x02\x00\x00", publish(msg("t", "", 1), 1))
	wantPings(t, "resumed", c, 4, 3)
	says(t, "P17.5", c, "\x40\x02\x00\x01")
	wantPings(t, "a Puback came, and nothing was sent", c, 4, 2)
}

// TestNeverSilent: a broker's conn that is told what a client sends, Tick by Tick, is never late, whichever of them is told of a Tick first.
func TestNeverSilent(t *testing.T) {
	for _, first := range []bool{true, false} {
		for keep := 1; keep < 12; keep++ {
			c := made(t, api.Who{Name: "a", KeepAlive: keep})
			far := conn.New(api.MaxLength, 0)
			b, _ := c.Up()
			far.Push(b)
			far.Next()
			says(t, "P17.5", c, "\x20\x02\x00\x00")
			for i := range 100 {
				if first {
					far.Push(c.Tick())
					far.Next()
				}
				if far.Tick() {
					t.Fatalf("P14.7: keep-alive %d: late at tick %d", keep, i+1)
				}
				if !first {
					far.Push(c.Tick())
					far.Next()
				}
			}
			if far.Over() {
				t.Errorf("P17.8: keep-alive %d: the conn is over", keep)
			}
		}
	}
}
