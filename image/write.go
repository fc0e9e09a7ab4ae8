package image

import (
	"crier/api"
	"crier/wire"
)

// writer: it lays fields one behind the other. Each is laid by itself first: wire's own calls would copy all that stands ahead of it each time.
type writer struct{ b []byte }

func (w *writer) image(m api.Image) {
	w.b = append(w.b, wire.PutLong(nil, m.Autos)...)
	putAll(w, m.Sessions, w.session)
	putAll(w, m.Retained, w.message)
}

func (w *writer) session(s api.Session) {
	w.text(s.Client)
	putAll(w, s.Subs, w.ask)
	w.number(s.Window.Last)
	putAll(w, s.Window.Flight, w.flight)
	putAll(w, s.Window.Queue, w.waiting)
	putAll(w, s.Inbox, w.number)
}

func (w *writer) ask(a api.Ask) {
	w.text(a.Filter)
	w.b = append(w.b, byte(a.QoS))
}

func (w *writer) flight(f api.Flight) {
	w.number(f.ID)
	if f.Released {
		w.b = append(w.b, releasedMark)
		return
	}
	w.waiting(f.Msg)
}

// waiting lays a message with its mark ahead.
func (w *writer) waiting(m api.Message) {
	mark := byte(plainMark)
	if m.Retain {
		mark = retainMark
	}
	w.b = append(w.b, mark)
	w.message(m)
}

func (w *writer) message(m api.Message) {
	w.text(m.Topic)
	w.b = append(w.b, byte(m.QoS))
	w.length(len(m.Payload))
	w.b = append(w.b, m.Payload...)
}

// text has no error to tell: Check has looked at the image.
func (w *writer) text(s string) {
	part, _ := wire.PutText(nil, s)
	w.b = append(w.b, part...)
}

func (w *writer) number(n int) { w.b = append(w.b, wire.PutNumber(nil, n)...) }

func (w *writer) length(n int) { w.b = append(w.b, wire.PutLength(nil, n)...) }

// putAll lays how many things there are, and these.
func putAll[T any](w *writer, l []T, put func(T)) {
	w.length(len(l))
	for _, x := range l {
		put(x)
	}
}
