package packet_test

import (
	"math"
	"math/rand"
	"testing"

	"crier/api"
	"crier/packet"
)

// firstBytes: the first bytes that may be, one by one.
var firstBytes = map[[2]int]bool{
	{1, 0}: true, {2, 0}: true,
	{3, 0}: true, {3, 1}: true, // quality 0
	{3, 2}: true, {3, 3}: true, {3, 10}: true, {3, 11}: true, // quality 1
	{3, 4}: true, {3, 5}: true, {3, 12}: true, {3, 13}: true, // quality 2
	{4, 0}: true, {5, 0}: true, {6, 2}: true, {7, 0}: true, {8, 2}: true, {9, 0}: true,
	{10, 2}: true, {11, 0}: true, {12, 0}: true, {13, 0}: true, {14, 0}: true,
}

// P2.4: all kinds with all flags, and what is neither.
func TestMay(t *testing.T) {
	some := []int{math.MinInt, -256, -16, -1, 1 << 32, math.MaxInt}
	for n := 0; n <= 40; n++ {
		some = append(some, n)
	}
	for _, kind := range some {
		for _, flags := range some {
			if packet.May(kind, flags) != firstBytes[[2]int{kind, flags}] {
				t.Errorf("P2.4: May(%d, %d): %t", kind, flags, packet.May(kind, flags))
			}
		}
	}
}

// wantFlags: a right packet's flags.
func wantFlags(p api.Packet) int {
	n := 0
	switch p.Kind {
	case api.Publish:
		n = 2 * p.Msg.QoS
		if p.Dup {
			n += 8
		}
		if p.Msg.Retain {
			n++
		}
	case api.Pubrel, api.Subscribe, api.Unsubscribe:
		n = 2
	}
	return n
}

// P2.5: flags and lengths of right packets, and 0 of all others.
func TestFlagsAndLength(t *testing.T) {
	r := rand.New(rand.NewSource(25))
	for range 40000 {
		p := bent(r, somePacket(r))
		flags, length := 0, 0
		if wanted(p) == api.OK {
			flags, length = wantFlags(p), bodies(p)
		}
		if n := packet.Flags(p); n != flags {
			t.Errorf("P2.5: Flags of %s: %d, want %d", told(p), n, flags)
		}
		if n := packet.Length(p); n != length {
			t.Errorf("P2.5: Length of %s: %d, want %d", told(p), n, length)
		}
	}
}

// P2.5: lengths that are told one by one.
func TestLengthExamples(t *testing.T) {
	will := api.Message{Topic: "w/w", Payload: []byte("gone"), QoS: 2, Retain: true}
	for _, c := range []struct {
		p             api.Packet
		flags, length int
	}{
		{api.Packet{Kind: api.Publish, Msg: api.Message{Topic: "a", Payload: []byte{1, 2, 3}, QoS: 1}, ID: 7}, 2, 8},
		{api.Packet{Kind: api.Publish, Msg: api.Message{Topic: "a", Payload: []byte{1, 2, 3}}}, 0, 6},
		{api.Packet{Kind: api.Publish, Msg: api.Message{Topic: "a", QoS: 2, Retain: true}, ID: 7, Dup: true}, 13, 5},
		{api.Packet{Kind: api.Connect, Level: 4, Clean: true, KeepAlive: 60, Client: "c"}, 0, 13},
		{api.Packet{Kind: api.Connect}, 0, 12},
		{api.Packet{Kind: api.Connect, HasWill: true, Will: will}, 0, 23},
		{api.Packet{Kind: api.Connect, HasUser: true}, 0, 14},
		{api.Packet{Kind: api.Connect, HasUser: true, User: "é", HasPass: true, Pass: []byte{0}}, 0, 19},
		{api.Packet{Kind: api.Connack}, 0, 2},
		{api.Packet{Kind: api.Pubrel, ID: 1}, 2, 2},
		{api.Packet{Kind: api.Pubcomp, ID: 1}, 0, 2},
		{api.Packet{Kind: api.Subscribe, ID: 1, Asks: []api.Ask{{Filter: "a/b"}, {Filter: "#", QoS: 2}}}, 2, 12},
		{api.Packet{Kind: api.Suback, ID: 1, Codes: []int{0, 128, 2}}, 0, 5},
		{api.Packet{Kind: api.Unsubscribe, ID: 1, Filters: []string{"a/b", "#"}}, 2, 10},
		{api.Packet{Kind: api.Pingreq}, 0, 0},
		{api.Packet{Kind: api.Publish, Msg: api.Message{Topic: "a", QoS: 1, Retain: true}}, 0, 0},
		{api.Packet{Kind: api.Connect, Level: 256}, 0, 0},
		{api.Packet{Kind: api.Subscribe, ID: 1}, 0, 0},
		{api.Packet{Kind: 15}, 0, 0},
		{api.Packet{Kind: -1}, 0, 0},
	} {
		if flags, length := packet.Flags(c.p), packet.Length(c.p); flags != c.flags || length != c.length {
			t.Errorf("P2.5: %s: flags %d, length %d; want %d, %d", told(c.p), flags, length, c.flags, c.length)
		}
	}
}

// P2.6: all names, and kinds that have none.
func TestName(t *testing.T) {
	names := map[int]string{
		api.Connect: "Connect", api.Connack: "Connack", api.Publish: "Publish", api.Puback: "Puback", api.Pubrec: "Pubrec",
		api.Pubrel: "Pubrel", api.Pubcomp: "Pubcomp", api.Subscribe: "Subscribe", api.Suback: "Suback",
		api.Unsubscribe: "Unsubscribe", api.Unsuback: "Unsuback", api.Pingreq: "Pingreq", api.Pingresp: "Pingresp", api.Disconnect: "Disconnect",
	}
	for _, kind := range []int{math.MinInt, -1, 0, 1, 2, 3, 4, 5, 6, 7, 8, 9, 10, 11, 12, 13, 14, 15, 16, 256, math.MaxInt} {
		if s := packet.Name(kind); s != names[kind] {
			t.Errorf("P2.6: Name(%d): %q, want %q", kind, s, names[kind])
		}
	}
}
