package broker

import (
	"slices"

	"crier/api"
	"crier/conn"
)

// link: an open connection.
type link struct {
	number int
	conn   *conn.Conn
	seat   *seat        // nil: its Connect hasn't come
	will   *api.Message // nil: there is none
}

func (b *Broker) open(number int) {
	if _, open := b.links[number]; open || number < 0 || number > api.MaxConn {
		return
	}
	if b.links == nil {
		b.links = map[int]*link{}
	}
	b.links[number] = &link{number: number, conn: conn.New(b.setup.Most, b.setup.Patience)}
}

// read takes the packets of a connection that are whole now.
func (b *Broker) read(number int, data []byte) []api.Out {
	l, open := b.links[number]
	if !open {
		return nil
	}
	var out []api.Out
	does := b.table()
	l.conn.Push(data)
	for in, ok := l.conn.Next(); ok; in, ok = l.conn.Next() {
		out = append(out, b.hear(l, in, does)...)
	}
	return out
}

// leave: the other side of a connection is gone.
func (b *Broker) leave(number int) []api.Out {
	l, open := b.links[number]
	if !open {
		return nil
	}
	return b.end(l)
}

// tick: a second passes for all connections, and then the late ones end.
func (b *Broker) tick() []api.Out {
	var late []int
	for number, l := range b.links {
		if l.conn.Tick() {
			late = append(late, number)
		}
	}
	slices.Sort(late)
	var out []api.Out
	for _, number := range late {
		out = append(out, b.shut(b.links[number])...)
	}
	return out
}

// hear does what an input asks for.
func (b *Broker) hear(l *link, in api.Input, does table) []api.Out {
	switch in.What {
	case api.InPacket:
		return does[in.Packet.Kind](l, in.Packet)
	case api.InRefuse:
		return b.refuse(l, in.Code)
	}
	return b.shut(l)
}

// refuse tells the other side why, and ends the connection.
func (b *Broker) refuse(l *link, code int) []api.Out {
	return append(l.answer(api.Packet{Kind: api.Connack, Code: code}), b.shut(l)...)
}

// shut ends a connection by the broker's doing.
func (b *Broker) shut(l *link) []api.Out {
	return append([]api.Out{{Conn: l.number, Closed: true}}, b.end(l)...)
}

// end takes a connection out, and passes its will on.
func (b *Broker) end(l *link) []api.Out {
	b.part(l)
	b.links = without(b.links, l.number)
	if l.will == nil {
		return nil
	}
	return b.pass(*l.will)
}

// part takes a connection's session away from it.
func (b *Broker) part(l *link) {
	l.conn.Stop()
	switch {
	case l.seat == nil:
	case l.seat.Lasting():
		l.seat.Down()
	default:
		b.forget(l.seat)
	}
}

// answer tells one packet for this connection.
func (l *link) answer(p api.Packet) []api.Out { return sent(l.number, []api.Packet{p}) }
