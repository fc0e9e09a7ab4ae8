package broker

import (
	"bytes"
	"strings"

	"crier/api"
)

// table: what a packet of each kind does, and its outputs; nil of a kind that only a broker sends.
type table [api.Disconnect + 1]func(l *link, p api.Packet) []api.Out

func (b *Broker) table() table {
	return table{
		api.Connect:     b.connect,
		api.Publish:     b.publish,
		api.Puback:      b.acknowledge,
		api.Pubrec:      b.acknowledge,
		api.Pubrel:      b.release,
		api.Pubcomp:     b.acknowledge,
		api.Subscribe:   b.subscribe,
		api.Unsubscribe: b.unsubscribe,
		api.Pingreq:     b.ping,
		api.Disconnect:  b.disconnect,
	}
}

func (b *Broker) connect(l *link, p api.Packet) []api.Out {
	if code := b.refusal(p); code != api.Accepted {
		return b.refuse(l, code)
	}
	out := b.replace(p.Client)
	s, present := b.sit(p)
	s.number = l.number
	l.seat = s
	l.will = willOf(p)
	out = append(out, l.answer(api.Packet{Kind: api.Connack, Present: present})...)
	return append(out, sent(s.number, s.Up())...)
}

// refusal tells why a Connect of the right level is refused.
func (b *Broker) refusal(p api.Packet) int {
	_, there := b.sessions[p.Client]
	switch {
	case p.Client == "" && !p.Clean:
		return api.BadClient
	case len(b.users) > 0 && !b.knows(p):
		return api.BadUser
	case !there && len(b.sessions) >= b.setup.Sessions, p.Client == "" && b.autos >= api.MaxAutos:
		return api.Unavailable
	}
	return api.Accepted
}

// knows tells whether a Connect's user is one of the setup's.
func (b *Broker) knows(p api.Packet) bool {
	_, known := b.users[api.User{Name: p.User, Word: string(p.Pass)}]
	return known && p.HasUser && p.HasPass
}

// replace ends the connection that has a client's session, if one has it.
func (b *Broker) replace(client string) []api.Out {
	if s, there := b.sessions[client]; there && s.Online() {
		return b.shut(b.links[s.number])
	}
	return nil
}

// willOf tells a Connect's will in memory of its own.
func willOf(p api.Packet) *api.Message {
	if !p.HasWill {
		return nil
	}
	will := p.Will
	will.Topic = strings.Clone(will.Topic)
	will.Payload = bytes.Clone(will.Payload)
	return &will
}

func (b *Broker) publish(l *link, p api.Packet) []api.Out {
	switch p.Msg.QoS {
	case 1:
		return append(b.pass(p.Msg), l.answer(api.Packet{Kind: api.Puback, ID: p.ID})...)
	case 2:
		return append(b.once(l, p), l.answer(api.Packet{Kind: api.Pubrec, ID: p.ID})...)
	}
	return b.pass(p.Msg)
}

// once passes a message of quality 2 on, if it didn't come in before.
func (b *Broker) once(l *link, p api.Packet) []api.Out {
	if !l.seat.Note(p.ID) {
		return nil
	}
	return b.pass(p.Msg)
}

func (b *Broker) acknowledge(l *link, p api.Packet) []api.Out {
	return sent(l.number, l.seat.Ack(p.Kind, p.ID))
}

func (b *Broker) release(l *link, p api.Packet) []api.Out {
	l.seat.Release(p.ID)
	return l.answer(api.Packet{Kind: api.Pubcomp, ID: p.ID})
}

func (b *Broker) subscribe(l *link, p api.Packet) []api.Out {
	codes := make([]int, 0, len(p.Asks))
	for _, a := range p.Asks {
		codes = append(codes, b.grant(l.seat, a))
	}
	out := l.answer(api.Packet{Kind: api.Suback, ID: p.ID, Codes: codes})
	for i, a := range p.Asks {
		if codes[i] != api.Failed {
			out = append(out, b.recall(l.seat, a)...)
		}
	}
	return out
}

// grant gives a session a filter, if it may have it: the code.
func (b *Broker) grant(s *seat, a api.Ask) int {
	code := s.Subscribe(a)
	if code != api.Failed {
		b.router.Subscribe(s.Key(), a)
	}
	return code
}

// recall brings a session the retained messages of a filter, which bear the retain mark.
func (b *Broker) recall(s *seat, a api.Ask) []api.Out {
	var out []api.Out
	for m := range b.router.Matching(a.Filter) {
		out = append(out, s.deliver(m, a.QoS)...)
	}
	return out
}

func (b *Broker) unsubscribe(l *link, p api.Packet) []api.Out {
	for _, filter := range p.Filters {
		if l.seat.Unsubscribe(filter) {
			b.router.Unsubscribe(l.seat.Key(), filter)
		}
	}
	return l.answer(api.Packet{Kind: api.Unsuback, ID: p.ID})
}

func (b *Broker) ping(l *link, _ api.Packet) []api.Out {
	return l.answer(api.Packet{Kind: api.Pingresp})
}

// disconnect ends a connection whose client goes in peace: there is no will then.
func (b *Broker) disconnect(l *link, _ api.Packet) []api.Out {
	l.will = nil
	return b.shut(l)
}
