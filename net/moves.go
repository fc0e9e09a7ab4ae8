package net

import (
	"crier/api"
	"crier/broker"
	"crier/client"
)

// table: what a move of each kind does.
type table [api.MoveRest + 1]func(m api.Move) api.Errno

func (x *Net) table() table {
	return table{
		api.MoveUp: x.named(func(m api.Move) api.Errno { return x.up(m.Client) }),
		api.MoveCut: x.linked(func(l *link, _ api.Move) api.Errno {
			x.cut(l)
			return api.OK
		}),
		api.MoveFade: x.linked(func(l *link, _ api.Move) api.Errno {
			x.fade(l)
			return api.OK
		}),
		api.MoveLeave:       x.linked(func(l *link, _ api.Move) api.Errno { return x.leave(l) }),
		api.MovePublish:     x.said(func(c *client.Client, m api.Move) ([]byte, api.Errno) { return c.Publish(m.Msg) }),
		api.MoveSubscribe:   x.said(func(c *client.Client, m api.Move) ([]byte, api.Errno) { return c.Subscribe(m.Asks) }),
		api.MoveUnsubscribe: x.said(func(c *client.Client, m api.Move) ([]byte, api.Errno) { return c.Unsubscribe(m.Filters) }),
		api.MoveIn: x.linked(func(l *link, m api.Move) api.Errno {
			x.carryIn(l, m.N)
			return api.OK
		}),
		api.MoveOut: x.linked(func(l *link, m api.Move) api.Errno {
			x.carryOut(l, m.N)
			return api.OK
		}),
		api.MoveTick: func(api.Move) api.Errno {
			x.tick()
			return api.OK
		},
		api.MoveReboot: func(api.Move) api.Errno { return x.reboot() },
		api.MoveRest: func(api.Move) api.Errno {
			x.rest()
			return api.OK
		},
	}
}

// named makes a move that names a client.
func (x *Net) named(do func(m api.Move) api.Errno) func(m api.Move) api.Errno {
	return func(m api.Move) api.Errno {
		if !x.has(m.Client) {
			return api.ErrNetClient
		}
		return do(m)
	}
}

// linked makes a move of a client's link.
func (x *Net) linked(do func(l *link, m api.Move) api.Errno) func(m api.Move) api.Errno {
	return x.named(func(m api.Move) api.Errno {
		l, linked := x.links[m.Client]
		if !linked {
			return api.ErrNetLink
		}
		return do(l, m)
	})
}

// said makes a move by which a client says something. Without a link it has nothing to say: it is down.
func (x *Net) said(say func(c *client.Client, m api.Move) ([]byte, api.Errno)) func(m api.Move) api.Errno {
	return x.named(func(m api.Move) api.Errno {
		b, e := say(x.clients[m.Client], m)
		if l, linked := x.links[m.Client]; linked {
			l.send(b)
		}
		return e
	})
}

func (x *Net) up(client int) api.Errno {
	number, free := x.vacant()
	if !free {
		return api.ErrNetFull
	}
	b, e := x.clients[client].Up()
	if e != api.OK {
		return e
	}
	l := &link{client: client, number: number}
	x.join(l)
	x.tell(api.Event{Kind: api.Open, Conn: number})
	l.send(b)
	return api.OK
}

// cut: a link breaks, and both sides know.
func (x *Net) cut(l *link) {
	x.lose(l)
	if !l.shut {
		x.closed(l.number)
		x.tell(api.Event{Kind: api.Close, Conn: l.number})
	}
}

// fade: a link breaks, and its client alone knows.
func (x *Net) fade(l *link) {
	x.lose(l)
	if !l.shut {
		x.open[l.number] = nil
	}
}

// leave: a client goes in peace. As a rule its Disconnect has the broker shut the link, which is there still, if something is on its line out.
func (x *Net) leave(l *link) api.Errno {
	b, e := x.clients[l.client].Leave()
	if e != api.OK {
		return e
	}
	l.send(b)
	x.carryIn(l, l.in.length())
	if _, there := x.links[l.client]; there {
		x.cut(l)
	}
	return api.OK
}

// carryIn lets bytes come to the broker.
func (x *Net) carryIn(l *link, n int) {
	if came := l.in.take(n); len(came) > 0 {
		x.tell(api.Event{Kind: api.Bytes, Conn: l.number, Data: came})
	}
}

// carryOut lets bytes come to the client.
func (x *Net) carryOut(l *link, n int) {
	c := x.clients[l.client]
	if came := l.out.take(n); len(came) > 0 {
		l.send(c.Push(came))
	}
	if c.State().Phase == api.PhaseDown {
		x.cut(l)
		return
	}
	x.settle(l)
}

// tick: a second passes, for the broker first.
func (x *Net) tick() {
	x.tell(api.Event{Kind: api.Tick})
	for n, c := range x.clients {
		if l, linked := x.links[n]; linked && !l.shut {
			l.send(c.Tick())
		}
	}
}

// reboot: the broker falls, and a new one is made from its image. It is made first, so that a refusal would change nothing.
func (x *Net) reboot() api.Errno {
	b, e := broker.From(x.config, x.broker.Image())
	if e != api.OK {
		return e
	}
	for n := range x.clients {
		if l, linked := x.links[n]; linked {
			x.lose(l)
		}
	}
	x.broker, x.open = b, nil
	return api.OK
}

// rest lets all links carry all, till nothing is on the way.
func (x *Net) rest() {
	for x.carries() {
		for n := range x.clients {
			if l, linked := x.links[n]; linked {
				x.carryIn(l, l.in.length())
			}
			if l, linked := x.links[n]; linked {
				x.carryOut(l, l.out.length())
			}
		}
	}
}
