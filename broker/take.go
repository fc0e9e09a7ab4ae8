package broker

import (
	"crier/api"
	"crier/packet"
)

// level: of a Connect, the only one that isn't refused.
const level = 4

// Take tells it what a connection brought.
func (b *Broker) Take(conn int, l []api.Input) []api.Out {
	from, open := b.links[conn]
	if !open {
		return nil
	}
	var out []api.Out
	does := b.table()
	for _, in := range l {
		if from.conn.Over() {
			break
		}
		if !b.may(from, in, does) {
			in = api.Input{What: api.InEnd}
		}
		from.conn.Took(in)
		out = append(out, b.hear(from, in, does)...)
	}
	return out
}

// may tells whether an input is a packet, or a refusal, that the connection's conn could answer now: all else counts as its end.
func (b *Broker) may(l *link, in api.Input, does table) bool {
	switch in.What {
	case api.InPacket:
		return in.Code == 0 && in.Err == api.OK && b.fits(in.Packet) && does[in.Packet.Kind] != nil && l.awaits(in.Packet)
	case api.InRefuse:
		return in.Code == api.BadLevel && in.Err == api.OK && packet.Same(in.Packet, api.Packet{}) && l.seat == nil
	}
	return false
}

// fits tells whether a packet is a right one, and not too long.
func (b *Broker) fits(p api.Packet) bool {
	return packet.Check(p) == api.OK && packet.Length(p) <= b.setup.Most
}

// awaits tells whether a packet comes in its turn: first a Connect, of the right level, and then none any more.
func (l *link) awaits(p api.Packet) bool {
	if l.seat == nil {
		return p.Kind == api.Connect && p.Level == level
	}
	return p.Kind != api.Connect
}
