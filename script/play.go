package script

import (
	"crier/api"
	"crier/broker"
	"crier/codec"
	"crier/net"
)

// player: a broker or a net, and what was told of it.
type player struct {
	acts   acts
	broker *broker.Broker
	net    *net.Net
	told   []byte
	over   bool // nothing further is done
}

// acts: what a step of each kind does; nil: such a step has no place here.
type acts [api.StepGot + 1]func(p *player, s api.Step)

func brokerActs() acts {
	return acts{
		api.StepEvent:  (*player).event,
		api.StepPacket: (*player).packet,
		api.StepShow:   (*player).showBroker,
	}
}

func netActs() acts {
	return acts{
		api.StepMove: (*player).move,
		api.StepShow: (*player).showNet,
		api.StepGot:  (*player).got,
	}
}

// newPlayer makes the broker, or the net, of a setup. One that is refused has told so, and does nothing further.
func newPlayer(n api.Net) *player {
	if len(n.Clients) == 0 {
		return &player{acts: brokerActs(), broker: broker.New(n.Config)}
	}
	x, e := net.New(n)
	p := &player{acts: netActs(), net: x}
	if e != api.OK {
		p.refused(e)
		p.over = true
	}
	return p
}

func (p *player) play(s api.Step) {
	if p.over {
		return
	}
	if act := p.acts[s.Kind]; act != nil {
		act(p, s)
		return
	}
	p.lay(begun("not here"))
}

// begun begins a line.
func begun(s string) *writer {
	w := &writer{most: api.MaxPlay}
	w.word(s)
	return w
}

// lay lays a line, if there is room for it.
func (p *player) lay(w *writer) {
	switch {
	case p.over:
	case len(p.told)+len(w.line)+1 > api.MaxPlay:
		p.told = append(p.told, "more\n"...)
		p.over = true
	default:
		p.told = append(append(p.told, w.line...), '\n')
	}
}

func (p *player) refused(e api.Errno) {
	p.numbered("refused err", int(e))
}

func (p *player) event(s api.Step) { p.tell(s.Event) }

func (p *player) packet(s api.Step) {
	b, e := codec.Encode(s.Packet)
	if e != api.OK {
		p.refused(e)
		return
	}
	p.tell(api.Event{Kind: api.Bytes, Conn: s.Conn, Data: b})
}

// tell tells the broker an event.
func (p *player) tell(e api.Event) {
	for _, o := range p.broker.Do(e) {
		if p.over {
			return
		}
		p.output(o)
	}
}

func (p *player) output(o api.Out) {
	if o.Closed {
		p.numbered("closed", o.Conn)
		return
	}
	w := begun("to")
	w.number(&o.Conn)
	w.data(&o.Data)
	p.lay(w)
}

func (p *player) move(s api.Step) {
	if e := p.net.Do(s.Move); e != api.OK {
		p.refused(e)
		return
	}
	p.lay(begun("ok"))
}

func (p *player) got(s api.Step) {
	state, _ := p.net.State(s.Client)
	w := begun("client")
	w.word(phaseWord(state.Phase))
	w.number(&state.Under)
	w.number(&state.Waiting)
	w.number(&state.Open)
	p.lay(w)
	for _, t := range p.net.Got(s.Client) {
		w := begun("told")
		message(w, &t.Msg)
		w.mark("dup", &t.Dup)
		p.lay(w)
	}
}

func phaseWord(phase int) string {
	switch phase {
	case api.PhaseAsking:
		return "asking"
	case api.PhaseUp:
		return "up"
	}
	return "down"
}

// numbered lays a line of a word and a number.
func (p *player) numbered(s string, n int) {
	w := begun(s)
	w.number(&n)
	p.lay(w)
}
