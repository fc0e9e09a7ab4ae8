package pump

import (
	"slices"

	"crier/api"
	"crier/broker"
	"crier/conn"
)

// enough: of so many bytes and steps a stretch isn't made longer: what is read ahead of the broker takes room.
const enough = 1 << 16

// pump: a broker, and a stretch of events that are read ahead of it.
type pump struct {
	most   int
	crew   *crew
	broker *broker.Broker
	open   map[int]*piece // the broker's open connections, by number
	out    []api.Out
	stretch
}

// stretch: events that the broker isn't told yet. Of all Bytes among them it is sure of which connection they are, if the broker doesn't end it ahead of them: so they can be read first.
type stretch struct {
	steps   []step
	todo    []*piece       // those that have parts
	changed map[int]*piece // connections that the steps open, by number; nil: that they close
	size    int            // in bytes and steps
}

// step: an event; of an Open what reads its connection, of Bytes what is read of them.
type step struct {
	event api.Event
	piece *piece
	part  *part
}

func newPump(c api.Config, workers int) *pump {
	return &pump{most: c.Most, crew: newCrew(workers), broker: broker.New(c), open: map[int]*piece{}, stretch: newStretch()}
}

func newStretch() stretch { return stretch{changed: map[int]*piece{}} }

// plan lays an event behind the stretch.
func (p *pump) plan(e api.Event) {
	switch e.Kind {
	case api.Open:
		p.planOpen(e)
	case api.Bytes:
		p.planBytes(e)
	case api.Close:
		p.changed[e.Conn] = nil
		p.add(step{event: e})
	case api.Tick:
		p.add(step{event: e})
	}
}

// planOpen: whether the Open of a connection that was open is one, or is passed over, hangs on what the broker did since then: so the stretch ends ahead of it.
func (p *pump) planOpen(e api.Event) {
	if p.at(e.Conn) != nil {
		p.flush()
	}
	if p.at(e.Conn) != nil || e.Conn < 0 || e.Conn > api.MaxConn {
		return
	}
	made := &piece{conn: conn.New(p.most, 0)}
	p.changed[e.Conn] = made
	p.add(step{event: e, piece: made})
}

// planBytes cuts long ones: no cut shows, and a stretch stays short.
func (p *pump) planBytes(e api.Event) {
	for data := range slices.Chunk(e.Data, enough) {
		at := p.at(e.Conn)
		if at == nil {
			return
		}
		if len(at.parts) == 0 {
			p.todo = append(p.todo, at)
		}
		x := &part{data: data}
		at.parts = append(at.parts, x)
		p.add(step{event: api.Event{Kind: api.Bytes, Conn: e.Conn, Data: data}, part: x})
	}
}

// at tells what reads a connection that is open behind the stretch, if the broker doesn't end it before; nil: it isn't.
func (p *pump) at(number int) *piece {
	if at, changed := p.changed[number]; changed {
		return at
	}
	return p.open[number]
}

func (p *pump) add(s step) {
	p.steps = append(p.steps, s)
	p.size += 1 + len(s.event.Data)
	if p.size >= enough {
		p.flush()
	}
}

// flush lets the workers read the stretch's bytes, and tells the broker its events.
func (p *pump) flush() {
	p.crew.read(p.todo)
	for _, s := range p.steps {
		p.tell(s)
	}
	p.stretch = newStretch()
}

// tell tells the broker a step, and notes which connections are open behind it.
func (p *pump) tell(s step) {
	switch s.event.Kind {
	case api.Open:
		p.open[s.event.Conn] = s.piece
	case api.Close:
		delete(p.open, s.event.Conn)
	}
	for _, o := range p.answer(s) {
		if o.Closed {
			delete(p.open, o.Conn)
		}
		p.out = append(p.out, o)
	}
}

// answer tells what the broker answers; of bytes it is told what was read of them.
func (p *pump) answer(s step) []api.Out {
	if s.part != nil {
		return p.broker.Take(s.event.Conn, s.part.read)
	}
	return p.broker.Do(s.event)
}
