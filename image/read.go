package image

import (
	"errors"

	"crier/api"
	"crier/wire"
)

// reader: it reads an image's fields up to the first one that isn't right; what it answers behind that one means nothing.
type reader struct {
	fields *wire.Reader
	size   int
	fault  api.Fault // the first one; its Err is OK as long as there is none
}

// readImage reads bytes as an image, whether it can be or not.
func readImage(b []byte) (api.Image, api.Fault) {
	r := &reader{fields: wire.Read(b), size: len(b)}
	m := r.image()
	return m, r.fault
}

func (r *reader) image() api.Image {
	for i := range len(opening) {
		if r.fields.Byte() != opening[i] {
			r.refuse(0, api.ErrImageMark)
		}
	}
	m := api.Image{
		Autos:    field(r, r.fields.Long),
		Sessions: readAll(r, r.session),
		Retained: readAll(r, r.retained),
	}
	begin := r.fields.At()
	r.fields.End()
	r.settle(begin)
	return m
}

func (r *reader) session() api.Session {
	return api.Session{
		Client: r.text(),
		Subs:   readAll(r, r.ask),
		Window: api.Window{
			Last:   r.number(),
			Flight: readAll(r, r.flight),
			Queue:  readAll(r, r.waiting),
		},
		Inbox: readAll(r, r.number),
	}
}

func (r *reader) ask() api.Ask {
	return api.Ask{Filter: r.text(), QoS: r.quality()}
}

func (r *reader) flight() api.Flight {
	f := api.Flight{ID: r.number()}
	if mark := r.mark(releasedMark); mark == releasedMark {
		f.Released = true
	} else {
		f.Msg = r.message(mark == retainMark)
	}
	return f
}

func (r *reader) waiting() api.Message {
	return r.message(r.mark(retainMark) == retainMark)
}

func (r *reader) retained() api.Message { return r.message(true) }

func (r *reader) message(retain bool) api.Message {
	return api.Message{Topic: r.text(), QoS: r.quality(), Payload: r.payload(), Retain: retain}
}

// payload reads so many bytes as the length ahead of them says, if there are as many: a length alone must not ask for room.
func (r *reader) payload() []byte {
	n := r.length()
	begin := r.fields.At()
	if n > r.size-begin {
		r.refuse(begin, api.ErrImageForm)
		return nil
	}
	l := make([]byte, n)
	for i := range l {
		l[i] = r.fields.Byte()
	}
	return l
}

func (r *reader) text() string { return field(r, r.fields.Text) }

func (r *reader) number() int { return field(r, r.fields.Number) }

func (r *reader) quality() int { return int(field(r, r.fields.Byte)) }

// mark reads a mark that is at most the greatest one that may stand there.
func (r *reader) mark(greatest byte) byte {
	begin := r.fields.At()
	mark := field(r, r.fields.Byte)
	if mark > greatest {
		r.refuse(begin, api.ErrImageForm)
	}
	return mark
}

// length reads a length in its shortest form.
func (r *reader) length() int {
	begin := r.fields.At()
	n := field(r, r.fields.Length)
	if r.fields.At()-begin != len(wire.PutLength(nil, n)) {
		r.refuse(begin, api.ErrImageForm)
	}
	return n
}

// field reads a field by one of wire's reads.
func field[T any](r *reader, read func() T) T {
	begin := r.fields.At()
	x := read()
	r.settle(begin)
	return x
}

// readAll reads how many things there are, and these: each of them, or up to the first fault.
func readAll[T any](r *reader, read func() T) []T {
	var l []T
	for range r.length() {
		if r.fault.Err != api.OK {
			break
		}
		l = append(l, read())
	}
	return l
}

// settle tells a fault of wire as one of the field that begins there: where in the field it lies isn't told.
func (r *reader) settle(begin int) {
	var f *api.Fault
	if errors.As(r.fields.Err(), &f) {
		r.refuse(begin, api.ErrImageForm)
	}
}

// refuse notes a fault, if it is the first.
func (r *reader) refuse(at int, e api.Errno) {
	if r.fault.Err == api.OK {
		r.fault = api.Fault{At: at, Err: e}
	}
}
