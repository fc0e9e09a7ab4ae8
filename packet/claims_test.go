package packet_test

import (
	"math/rand"
	"reflect"
	"slices"
	"testing"

	"crier/api"
	"crier/packet"
)

// P2.8: what a right packet's flags and length are.
func TestRightPackets(t *testing.T) {
	r := rand.New(rand.NewSource(28))
	for range 40000 {
		p := bent(r, somePacket(r))
		if packet.Check(p) != api.OK {
			continue
		}
		if !packet.May(p.Kind, packet.Flags(p)) {
			t.Errorf("P2.8: May(%d, %d) is false, of %s", p.Kind, packet.Flags(p), told(p))
		}
		if n := packet.Length(p); n < 0 || n > 268435455 {
			t.Errorf("P2.8: Length of %s: %d", told(p), n)
		}
	}
}

// alike: whether two packets have the same kind, the same flags and the same in all fields that their kind has.
func alike(a, b api.Packet) bool {
	if a.Kind != b.Kind || packet.Flags(a) != packet.Flags(b) {
		return false
	}
	v, w := reflect.ValueOf(noEmpty(a)), reflect.ValueOf(noEmpty(b))
	for i := range v.NumField() {
		if had(a, v.Type().Field(i).Name) && !reflect.DeepEqual(v.Field(i).Interface(), w.Field(i).Interface()) {
			return false
		}
	}
	return true
}

// P2.8: right packets that aren't the same differ in what their kind has.
func TestRightPacketsThatDiffer(t *testing.T) {
	r := rand.New(rand.NewSource(29))
	some := make([]api.Packet, 0, 700)
	for len(some) < cap(some) {
		if p := bent(r, somePacket(r)); packet.Check(p) == api.OK {
			some = append(some, p)
		}
	}
	for _, a := range some {
		for _, b := range some {
			if packet.Same(a, b) != alike(a, b) {
				t.Errorf("P2.8: %s and %s", told(a), told(b))
			}
		}
	}
}

// lesser: the packets that P2.9 says stay right.
func lesser(p api.Packet) []api.Packet {
	var l []api.Packet
	add := func(change func(q *api.Packet)) {
		q := packet.Copy(p)
		change(&q)
		l = append(l, q)
	}
	for n := range len(p.Msg.Payload) {
		add(func(q *api.Packet) { q.Msg.Payload = q.Msg.Payload[:n] })
	}
	for n := range len(p.Will.Payload) {
		add(func(q *api.Packet) { q.Will.Payload = q.Will.Payload[:n] })
	}
	for i := range p.Asks {
		if len(p.Asks) > 1 {
			add(func(q *api.Packet) { q.Asks = slices.Delete(q.Asks, i, i+1) })
		}
		if p.Asks[i].QoS == 2 {
			add(func(q *api.Packet) { q.Asks[i].QoS = 1 })
		}
	}
	for i := range p.Filters {
		if len(p.Filters) > 1 {
			add(func(q *api.Packet) { q.Filters = slices.Delete(q.Filters, i, i+1) })
		}
	}
	if p.Msg.QoS == 2 {
		add(func(q *api.Packet) { q.Msg.QoS = 1 })
	}
	if p.Will.QoS == 2 {
		add(func(q *api.Packet) { q.Will.QoS = 1 })
	}
	return l
}

// P2.9: what is made less of a right packet leaves it right.
func TestRightPacketsMadeLess(t *testing.T) {
	r := rand.New(rand.NewSource(30))
	n := 0
	for range 20000 {
		p := somePacket(r)
		if e := packet.Check(p); e != api.OK {
			t.Fatalf("P2.2: Check of %s: %d", told(p), e)
		}
		for _, q := range lesser(p) {
			n++
			if e := packet.Check(q); e != api.OK {
				t.Errorf("P2.9: %s is right, %s isn't: %d", told(p), told(q), e)
			}
		}
	}
	if n < 1000 {
		t.Errorf("only %d packets were made less", n)
	}
}
