package wire

import (
	"bytes"

	"crier/api"
)

// Reader: it reads bytes from the left.
type Reader struct {
	b     []byte
	at    int
	fault api.Fault // the first one; its Err is OK as long as there is none
}

// Read makes a reader of b's bytes.
func Read(b []byte) *Reader {
	return &Reader{b: bytes.Clone(b)}
}

// Byte reads one byte.
func (r *Reader) Byte() byte {
	defer func(from int) { r.settle(from, recover()) }(r.at)
	return r.take(1)[0]
}

// Number reads a number of two bytes.
func (r *Reader) Number() int {
	defer func(from int) { r.settle(from, recover()) }(r.at)
	return r.number(2)
}

// Long reads a number of four bytes.
func (r *Reader) Long() int {
	defer func(from int) { r.settle(from, recover()) }(r.at)
	return r.number(4)
}

// Length reads a length.
func (r *Reader) Length() int {
	defer func(from int) { r.settle(from, recover()) }(r.at)
	n, k, e := Length(r.left())
	switch e {
	case api.ErrWireShort:
		giveUp(len(r.b), e)
	case api.ErrWireForm:
		giveUp(r.at+lengthBytes-1, e)
	}
	r.take(k)
	return n
}

// Text reads a text.
func (r *Reader) Text() string {
	defer func(from int) { r.settle(from, recover()) }(r.at)
	n := r.number(2)
	start := r.at
	s := string(r.take(n))
	if at, e := Check(s); e != api.OK {
		giveUp(start+at, e)
	}
	return s
}

// Data reads bytes that have their length ahead.
func (r *Reader) Data() []byte {
	defer func(from int) { r.settle(from, recover()) }(r.at)
	return bytes.Clone(r.take(r.number(2)))
}

// Rest reads all that is left.
func (r *Reader) Rest() []byte {
	defer func(from int) { r.settle(from, recover()) }(r.at)
	return bytes.Clone(r.take(len(r.left())))
}

// End wants that nothing is left.
func (r *Reader) End() {
	defer func(from int) { r.settle(from, recover()) }(r.at)
	if len(r.left()) > 0 {
		giveUp(r.at, api.ErrWireRest)
	}
}

// At tells how many bytes were taken.
func (r *Reader) At() int { return r.at }

// Err tells the first fault.
func (r *Reader) Err() error {
	if r.fault.Err == api.OK {
		return nil
	}
	return &api.Fault{At: r.fault.At, Err: r.fault.Err}
}

// left tells the bytes that weren't taken. Every read passes here, so behind a fault each gives up with that same one.
func (r *Reader) left() []byte {
	if r.fault.Err != api.OK {
		giveUp(r.fault.At, r.fault.Err)
	}
	return r.b[r.at:]
}

// take takes n bytes; they are the reader's own memory.
func (r *Reader) take(n int) []byte {
	b := r.left()
	if n > len(b) {
		giveUp(len(r.b), api.ErrWireShort)
	}
	r.at += n
	return b[:n]
}

// number takes a number of so many bytes, the highest first.
func (r *Reader) number(size int) int {
	n := 0
	for _, c := range r.take(size) {
		n = n<<8 | int(c)
	}
	return n
}

// giveUp leaves a read from wherever it is.
func giveUp(at int, e api.Errno) {
	panic(api.Fault{At: at, Err: e})
}

// settle ends a read that began at from: if it gave up, what it took by then is put back, and the fault stays.
func (r *Reader) settle(from int, gaveUp any) {
	if f, ok := gaveUp.(api.Fault); ok {
		r.at, r.fault = from, f
	}
}
