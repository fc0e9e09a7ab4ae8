package broker

import (
	"strconv"

	"crier/api"
	"crier/codec"
	"crier/session"
)

// seat: a session and, while it is online, the number of its connection.
type seat struct {
	*session.Session
	number int
}

// autoMark: how the key of a session begins whose client has no name; no name has that byte.
const autoMark = "\x00"

// sit tells the session of a Connect that isn't refused, and whether it was there before. It is offline, and so a lasting one, if it is there.
func (b *Broker) sit(p api.Packet) (*seat, bool) {
	s, there := b.sessions[p.Client]
	if there && !p.Clean {
		return s, true
	}
	if there {
		b.forget(s)
	}
	return b.add(session.New(b.keyOf(p.Client), !p.Clean, b.setup)), false
}

// keyOf tells the key of a client that has no session; one without a name is given a new one.
func (b *Broker) keyOf(client string) string {
	if client != "" {
		return client
	}
	b.autos++
	return autoMark + strconv.Itoa(b.autos)
}

func (b *Broker) add(s *session.Session) *seat {
	if b.sessions == nil {
		b.sessions = map[string]*seat{}
	}
	added := &seat{Session: s}
	b.sessions[s.Key()] = added
	return added
}

// forget drops a session. Its filters are taken out one by one: the router's Leave would look at everybody's.
func (b *Broker) forget(s *seat) {
	for _, a := range s.Subs() {
		b.router.Unsubscribe(s.Key(), a.Filter)
	}
	b.sessions = without(b.sessions, s.Key())
}

// pass passes a message on.
func (b *Broker) pass(m api.Message) []api.Out {
	if m.Retain {
		b.router.Retain(m)
	}
	m.Retain = false
	var out []api.Out
	for _, who := range b.router.Route(m.Topic) {
		out = append(out, b.sessions[who.Key].deliver(m, who.QoS)...)
	}
	return out
}

// deliver brings a session its copy of a message, at most at the quality that it was granted.
func (s *seat) deliver(m api.Message, granted int) []api.Out {
	m.QoS = min(m.QoS, granted)
	l, _ := s.Deliver(m) // what is lost is nobody's business
	return sent(s.number, l)
}

// sent tells packets for a connection. Encode has no error to tell: the broker makes none but right ones, as a copy is no longer than its message was.
func sent(number int, l []api.Packet) []api.Out {
	out := make([]api.Out, 0, len(l))
	for _, p := range l {
		data, _ := codec.Encode(p)
		out = append(out, api.Out{Conn: number, Data: data})
	}
	return out
}
