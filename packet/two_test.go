package packet_test

import (
	"math/rand"
	"reflect"
	"slices"
	"testing"

	"crier/api"
	"crier/packet"
)

// full: a packet with something in every field, spare room behind every list.
func full() api.Packet {
	return api.Packet{
		Kind: 3, Level: 4, Clean: true, KeepAlive: 60, Client: "c",
		HasWill: true, Will: api.Message{Topic: "w", Payload: spared[byte](1, 2), QoS: 1, Retain: true},
		HasUser: true, User: "u", HasPass: true, Pass: spared[byte](3, 4),
		Present: true, Code: 5, Dup: true,
		Msg: api.Message{Topic: "m", Payload: spared[byte](5, 6), QoS: 2, Retain: true},
		ID:  7, Asks: spared(api.Ask{Filter: "a", QoS: 1}, api.Ask{Filter: "b", QoS: 2}),
		Codes: spared(1, 2), Filters: spared("a", "b"),
	}
}

func spared[T any](l ...T) []T { return append(make([]T, 0, len(l)+3), l...) }

// others: full with one thing made another, in every field and in every place of every list.
func others() map[string]func(p *api.Packet) {
	return map[string]func(p *api.Packet){
		"Kind":         func(p *api.Packet) { p.Kind++ },
		"Level":        func(p *api.Packet) { p.Level++ },
		"Clean":        func(p *api.Packet) { p.Clean = false },
		"KeepAlive":    func(p *api.Packet) { p.KeepAlive++ },
		"Client":       func(p *api.Packet) { p.Client = "C" },
		"HasWill":      func(p *api.Packet) { p.HasWill = false },
		"Will.Topic":   func(p *api.Packet) { p.Will.Topic = "W" },
		"Will.Payload": func(p *api.Packet) { p.Will.Payload[1]++ },
		"Will's end":   func(p *api.Packet) { p.Will.Payload = p.Will.Payload[:1] },
		"Will.QoS":     func(p *api.Packet) { p.Will.QoS++ },
		"Will.Retain":  func(p *api.Packet) { p.Will.Retain = false },
		"HasUser":      func(p *api.Packet) { p.HasUser = false },
		"User":         func(p *api.Packet) { p.User = "U" },
		"HasPass":      func(p *api.Packet) { p.HasPass = false },
		"Pass":         func(p *api.Packet) { p.Pass[0]++ },
		"Pass's end":   func(p *api.Packet) { p.Pass = p.Pass[:1] },
		"Present":      func(p *api.Packet) { p.Present = false },
		"Code":         func(p *api.Packet) { p.Code++ },
		"Dup":          func(p *api.Packet) { p.Dup = false },
		"Msg.Topic":    func(p *api.Packet) { p.Msg.Topic = "M" },
		"Msg.Payload":  func(p *api.Packet) { p.Msg.Payload[1]++ },
		"Msg's end":    func(p *api.Packet) { p.Msg.Payload = nil },
		"Msg.QoS":      func(p *api.Packet) { p.Msg.QoS-- },
		"Msg.Retain":   func(p *api.Packet) { p.Msg.Retain = false },
		"ID":           func(p *api.Packet) { p.ID++ },
		"Asks.Filter":  func(p *api.Packet) { p.Asks[1].Filter = "B" },
		"Asks.QoS":     func(p *api.Packet) { p.Asks[0].QoS++ },
		"Asks' end":    func(p *api.Packet) { p.Asks = p.Asks[:3] },
		"Codes":        func(p *api.Packet) { p.Codes[0], p.Codes[1] = 2, 1 },
		"Codes' end":   func(p *api.Packet) { p.Codes = p.Codes[:1] },
		"Filters":      func(p *api.Packet) { p.Filters[1] = "" },
		"Filters' end": func(p *api.Packet) { p.Filters = []string{} },
	}
}

// P2.7: packets that differ in one thing alone aren't the same, whichever it is.
func TestSame(t *testing.T) {
	if !packet.Same(full(), full()) {
		t.Error("P2.7: a packet isn't the same as itself")
	}
	for what, change := range others() {
		p := full()
		change(&p)
		if packet.Same(p, full()) || packet.Same(full(), p) {
			t.Errorf("P2.7: packets that differ in %s are the same", what)
		}
	}
}

// P2.7: a nil list is like an empty one, in each place.
func TestSameOfEmptyLists(t *testing.T) {
	empty := api.Packet{
		Will: api.Message{Payload: []byte{}}, Pass: []byte{}, Msg: api.Message{Payload: []byte{}},
		Asks: []api.Ask{}, Codes: []int{}, Filters: []string{},
	}
	if !packet.Same(empty, api.Packet{}) || !packet.Same(api.Packet{}, empty) {
		t.Error("P2.7: empty lists aren't like nil ones")
	}
	for _, p := range []api.Packet{empty, {}} {
		if !packet.Same(packet.Copy(p), p) {
			t.Error("P2.7: a copy of empty lists isn't the same")
		}
	}
}

// P2.7: Same against what reflect tells, of packets that are right and that aren't.
func TestSameRandom(t *testing.T) {
	r := rand.New(rand.NewSource(27))
	for range 20000 {
		p := bent(r, somePacket(r))
		q := bent(r, packet.Copy(p))
		want := reflect.DeepEqual(noEmpty(p), noEmpty(q))
		if packet.Same(p, q) != want {
			t.Errorf("P2.7: Same of %s and %s: %t", told(p), told(q), !want)
		}
	}
}

// noEmpty: the packet, its empty lists nil.
func noEmpty(p api.Packet) api.Packet {
	p.Will.Payload, p.Pass, p.Msg.Payload = orNil(p.Will.Payload), orNil(p.Pass), orNil(p.Msg.Payload)
	p.Asks, p.Codes, p.Filters = orNil(p.Asks), orNil(p.Codes), orNil(p.Filters)
	return p
}

func orNil[T any](l []T) []T {
	if len(l) == 0 {
		return nil
	}
	return l
}

// fill: other values into all the room that a packet's lists have, what they hold now included.
func fill(p api.Packet) {
	for _, b := range [][]byte{p.Will.Payload, p.Pass, p.Msg.Payload} {
		for i := range b[:cap(b)] {
			b[:cap(b)][i] = 99
		}
	}
	for i := range p.Asks[:cap(p.Asks)] {
		p.Asks[:cap(p.Asks)][i] = api.Ask{Filter: "other", QoS: 99}
	}
	for i := range p.Codes[:cap(p.Codes)] {
		p.Codes[:cap(p.Codes)][i] = 99
	}
	for i := range p.Filters[:cap(p.Filters)] {
		p.Filters[:cap(p.Filters)][i] = "other"
	}
}

// P2.7 and rule 3: a copy is the same packet, and neither it nor another copy shares memory with it.
func TestCopy(t *testing.T) {
	p := full()
	a, b := packet.Copy(p), packet.Copy(p)
	if !packet.Same(a, full()) || !packet.Same(p, full()) {
		t.Fatalf("P2.7: the copy of %s is %s", told(full()), told(a))
	}
	fill(a)
	if !packet.Same(p, full()) || !packet.Same(b, full()) {
		t.Error("P2.7: a copy shares memory")
	}
	if !slices.Equal(p.Pass[:cap(p.Pass)], full().Pass[:5]) || !slices.Equal(p.Codes[:cap(p.Codes)], full().Codes[:5]) {
		t.Error("P2.7: a copy shares the room behind a list")
	}
	fill(p)
	if !packet.Same(b, full()) {
		t.Error("P2.7: a copy hangs on what it was made from")
	}
}

// P2.7 and rule 3: no two lists of a copy share memory, even if those that it was made from do.
func TestCopyOfSharedLists(t *testing.T) {
	one := []byte{1, 2, 3}
	c := packet.Copy(api.Packet{Will: api.Message{Payload: one}, Pass: one, Msg: api.Message{Payload: one[:1]}})
	c.Pass[0], c.Pass[1] = 9, 9
	if one[0] != 1 || c.Will.Payload[0] != 1 || c.Will.Payload[1] != 2 || c.Msg.Payload[0] != 1 {
		t.Error("P2.7: lists of one copy share memory")
	}
	_ = append(c.Msg.Payload, 8)
	if c.Will.Payload[1] != 2 || one[1] != 2 {
		t.Error("P2.7: the room behind a list of a copy is another one's")
	}
}

// Rule 3: no call changes what it is handed, nor the room behind it.
func TestNothingHandedInIsChanged(t *testing.T) {
	r := rand.New(rand.NewSource(3))
	for range 2000 {
		p := bent(r, somePacket(r))
		kept := roomy(p)
		packet.Check(p)
		packet.CheckMessage(p.Msg)
		packet.Flags(p)
		packet.Length(p)
		packet.Same(p, p)
		packet.Copy(p)
		if !reflect.DeepEqual(kept, roomy(p)) {
			t.Fatalf("a call has changed %s", told(p))
		}
	}
}

// roomy: all that a packet's lists hold and have room for, in new memory.
func roomy(p api.Packet) []any {
	return []any{
		append([]byte{}, p.Will.Payload[:cap(p.Will.Payload)]...), append([]byte{}, p.Pass[:cap(p.Pass)]...),
		append([]byte{}, p.Msg.Payload[:cap(p.Msg.Payload)]...), append([]api.Ask{}, p.Asks[:cap(p.Asks)]...),
		append([]int{}, p.Codes[:cap(p.Codes)]...), append([]string{}, p.Filters[:cap(p.Filters)]...),
	}
}
