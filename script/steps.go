package script

import (
	"bytes"

	"crier/api"
	"crier/packet"
)

// contentOf tells how many bytes of contents a step has.
func contentOf(s api.Step) int {
	return len(s.Event.Data) + len(s.Packet.Msg.Payload) + len(s.Packet.Will.Payload) + len(s.Move.Msg.Payload)
}

// freight: what a move has beside its numbers, as a packet's: those are copied and held against each other by layer 2.
func freight(m api.Move) api.Packet {
	return api.Packet{Msg: m.Msg, Asks: m.Asks, Filters: m.Filters}
}

// copied tells the same step in new memory.
func copied(s api.Step) api.Step {
	s.Event.Data = append([]byte(nil), s.Event.Data...)
	s.Packet = packet.Copy(s.Packet)
	f := packet.Copy(freight(s.Move))
	s.Move.Msg, s.Move.Asks, s.Move.Filters = f.Msg, f.Asks, f.Filters
	return s
}

func sameStep(a, b api.Step) bool {
	return kindsOf(a) == kindsOf(b) &&
		a.Conn == b.Conn && a.Client == b.Client &&
		a.Event.Conn == b.Event.Conn && bytes.Equal(a.Event.Data, b.Event.Data) &&
		packet.Same(a.Packet, b.Packet) &&
		a.Move.Client == b.Move.Client && a.Move.N == b.Move.N &&
		packet.Same(freight(a.Move), freight(b.Move))
}
