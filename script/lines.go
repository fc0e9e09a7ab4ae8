package script

import "crier/api"

// hand: it goes through what stands in a line, from the left: a reader fills it in, a writer writes it.
type hand interface {
	number(n *int)
	text(s *string)
	data(b *[]byte)
	mark(s string, has *bool) // the word or nothing
	numbers(l *[]int)
	texts(l *[]string)
	asks(l *[]api.Ask)
	packet(p *api.Packet)
}

// row: a word, the kind of what it begins, and what stands behind it.
type row[K comparable, T any] struct {
	word string
	kind K
	rest func(x *T, h hand)
}

// kinds: a step's, its event's and its move's.
type kinds struct{ step, event, move int }

func kindsOf(s api.Step) kinds { return kinds{s.Kind, s.Event.Kind, s.Move.Kind} }

// step: a step as a line: its methods go through what stands behind the first word.
type step struct{ api.Step }

func stepRows() []row[kinds, step] {
	return []row[kinds, step]{
		{"open", kinds{step: api.StepEvent, event: api.Open}, (*step).conn},
		{"close", kinds{step: api.StepEvent, event: api.Close}, (*step).conn},
		{"bytes", kinds{step: api.StepEvent, event: api.Bytes}, (*step).bytes},
		{"tick", kinds{step: api.StepEvent, event: api.Tick}, (*step).alone},
		{"send", kinds{step: api.StepPacket}, (*step).send},
		{"up", kinds{step: api.StepMove, move: api.MoveUp}, (*step).client},
		{"cut", kinds{step: api.StepMove, move: api.MoveCut}, (*step).client},
		{"fade", kinds{step: api.StepMove, move: api.MoveFade}, (*step).client},
		{"leave", kinds{step: api.StepMove, move: api.MoveLeave}, (*step).client},
		{"publish", kinds{step: api.StepMove, move: api.MovePublish}, (*step).publish},
		{"subscribe", kinds{step: api.StepMove, move: api.MoveSubscribe}, (*step).subscribe},
		{"unsubscribe", kinds{step: api.StepMove, move: api.MoveUnsubscribe}, (*step).unsubscribe},
		{"in", kinds{step: api.StepMove, move: api.MoveIn}, (*step).carry},
		{"out", kinds{step: api.StepMove, move: api.MoveOut}, (*step).carry},
		{"second", kinds{step: api.StepMove, move: api.MoveTick}, (*step).alone},
		{"reboot", kinds{step: api.StepMove, move: api.MoveReboot}, (*step).alone},
		{"rest", kinds{step: api.StepMove, move: api.MoveRest}, (*step).alone},
		{"show", kinds{step: api.StepShow}, (*step).alone},
		{"got", kinds{step: api.StepGot}, (*step).got},
	}
}

func (s *step) alone(hand) {}

func (s *step) conn(h hand) { h.number(&s.Event.Conn) }

func (s *step) bytes(h hand) {
	h.number(&s.Event.Conn)
	h.data(&s.Event.Data)
}

func (s *step) send(h hand) {
	h.number(&s.Conn)
	h.packet(&s.Packet)
}

func (s *step) client(h hand) { h.number(&s.Move.Client) }

func (s *step) publish(h hand) {
	h.number(&s.Move.Client)
	message(h, &s.Move.Msg)
}

func (s *step) subscribe(h hand) {
	h.number(&s.Move.Client)
	h.asks(&s.Move.Asks)
}

func (s *step) unsubscribe(h hand) {
	h.number(&s.Move.Client)
	h.texts(&s.Move.Filters)
}

func (s *step) carry(h hand) {
	h.number(&s.Move.Client)
	h.number(&s.Move.N)
}

func (s *step) got(h hand) { h.number(&s.Client) }

func message(h hand, m *api.Message) {
	h.text(&m.Topic)
	h.data(&m.Payload)
	h.number(&m.QoS)
	h.mark("retain", &m.Retain)
}

// body: a packet as part of a line.
type body struct{ api.Packet }

func packetRows() []row[int, body] {
	return []row[int, body]{
		{"connect", api.Connect, (*body).connect},
		{"connack", api.Connack, (*body).connack},
		{"publish", api.Publish, (*body).publish},
		{"puback", api.Puback, (*body).numbered},
		{"pubrec", api.Pubrec, (*body).numbered},
		{"pubrel", api.Pubrel, (*body).numbered},
		{"pubcomp", api.Pubcomp, (*body).numbered},
		{"subscribe", api.Subscribe, (*body).subscribe},
		{"suback", api.Suback, (*body).suback},
		{"unsubscribe", api.Unsubscribe, (*body).unsubscribe},
		{"unsuback", api.Unsuback, (*body).numbered},
		{"pingreq", api.Pingreq, (*body).alone},
		{"pingresp", api.Pingresp, (*body).alone},
		{"disconnect", api.Disconnect, (*body).alone},
	}
}

func (p *body) alone(hand) {}

func (p *body) numbered(h hand) { h.number(&p.ID) }

func (p *body) connect(h hand) {
	h.number(&p.Level)
	h.number(&p.KeepAlive)
	h.text(&p.Client)
	h.mark("clean", &p.Clean)
	if h.mark("will", &p.HasWill); p.HasWill {
		message(h, &p.Will)
	}
	if h.mark("user", &p.HasUser); p.HasUser {
		h.text(&p.User)
	}
	if h.mark("pass", &p.HasPass); p.HasPass {
		h.data(&p.Pass)
	}
}

func (p *body) connack(h hand) {
	h.number(&p.Code)
	h.mark("present", &p.Present)
}

// publish: a number that is 0 is written by leaving it out, though it may stand there.
func (p *body) publish(h hand) {
	message(h, &p.Msg)
	h.mark("dup", &p.Dup)
	has := p.ID != 0
	if h.mark("id", &has); has {
		h.number(&p.ID)
	}
}

func (p *body) subscribe(h hand) {
	h.number(&p.ID)
	h.asks(&p.Asks)
}

func (p *body) suback(h hand) {
	h.number(&p.ID)
	h.numbers(&p.Codes)
}

func (p *body) unsubscribe(h hand) {
	h.number(&p.ID)
	h.texts(&p.Filters)
}
