package script

import "crier/api"

func (p *player) showBroker(api.Step) { p.show(p.broker.Image()) }

func (p *player) showNet(api.Step) { p.show(p.net.Image()) }

// show tells an image.
func (p *player) show(m api.Image) {
	p.numbered("image", m.Autos)
	for _, s := range m.Sessions {
		p.session(s)
	}
	for _, k := range m.Retained {
		p.message("kept", k)
	}
}

func (p *player) session(s api.Session) {
	w := begun("session")
	w.text(&s.Client)
	w.word("last")
	w.number(&s.Window.Last)
	p.lay(w)
	for _, a := range s.Subs {
		w := begun("sub")
		w.text(&a.Filter)
		w.number(&a.QoS)
		p.lay(w)
	}
	for _, f := range s.Window.Flight {
		p.flight(f)
	}
	for _, m := range s.Window.Queue {
		p.message("wait", m)
	}
	for _, id := range s.Inbox {
		p.numbered("came", id)
	}
}

func (p *player) flight(f api.Flight) {
	w := begun("flight")
	w.number(&f.ID)
	if f.Released {
		w.word("released")
	} else {
		message(w, &f.Msg)
	}
	p.lay(w)
}

// message lays a line of a word and a message.
func (p *player) message(s string, m api.Message) {
	w := begun(s)
	message(w, &m)
	p.lay(w)
}
