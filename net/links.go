package net

import "crier/api"

// link: what joins a client that isn't down to the broker.
type link struct {
	client  int
	number  int  // of its connection
	shut    bool // the broker has closed that one: the number may be another one's by now
	in, out line // to the broker, and to the client
}

// send lays what the client says on the line in. Of a link that is shut it is lost.
func (l *link) send(b []byte) {
	if !l.shut {
		l.in.lay(b)
	}
}

// vacant tells the number of the next connection; false: all of them are open.
func (x *Net) vacant() (int, bool) {
	for i := range api.MaxConn + 1 {
		number := (x.next + i) % (api.MaxConn + 1)
		if _, open := x.open[number]; !open {
			return number, true
		}
	}
	return 0, false
}

// join adds a link, and its connection.
func (x *Net) join(l *link) {
	if x.open == nil {
		x.open = map[int]*link{}
	}
	x.links[l.client] = l
	x.open[l.number] = l
	x.next = l.number + 1
}

// closed: a connection is open no more. An empty map isn't kept: it has the room of its fullest time.
func (x *Net) closed(number int) {
	delete(x.open, number)
	if len(x.open) == 0 {
		x.open = nil
	}
}

// lose: a link is gone, and what is on it; its client knows.
func (x *Net) lose(l *link) {
	delete(x.links, l.client)
	x.clients[l.client].Down()
}

// settle: a link that is shut is gone as soon as its line out is empty.
func (x *Net) settle(l *link) {
	if l.shut && l.out.length() == 0 {
		x.lose(l)
	}
}

// carries tells whether something is on a line.
func (x *Net) carries() bool {
	for _, l := range x.links {
		if l.in.length()+l.out.length() > 0 {
			return true
		}
	}
	return false
}

// tell tells the broker an event, and lays what it answers on the links.
func (x *Net) tell(e api.Event) {
	for _, o := range x.broker.Do(e) {
		if l := x.open[o.Conn]; o.Closed {
			x.shut(o.Conn)
		} else if l != nil {
			l.out.lay(o.Data)
		}
	}
}

// shut: the broker has closed a connection, by which its link, if it has one, is shut.
func (x *Net) shut(number int) {
	l := x.open[number]
	x.closed(number)
	if l != nil {
		l.shut, l.in = true, line{}
		x.settle(l)
	}
}
