package script

import (
	"strconv"

	"crier/api"
)

// greatest: a number's bound, on both sides.
const greatest = 1 << 40

// reader: it reads a line, or a setup, up to the first thing that can't stand there; what it answers behind that means nothing.
type reader struct {
	whole string
	next  token
	err   error // the first fault
}

func newReader(text string) *reader {
	return &reader{whole: text, next: scan(text, 0)}
}

// more tells whether something is left.
func (r *reader) more() bool { return r.next.kind != nothing }

// pass goes on to what follows.
func (r *reader) pass() { r.next = scan(r.whole, r.next.end) }

// fail notes a fault, if it is the first; nothing is left behind it.
func (r *reader) fail(at int, e api.Errno) {
	if r.err == nil {
		r.err = &api.Fault{At: at, Err: e}
	}
	r.next = token{kind: nothing}
}

// refuse: what comes next can't stand there. What a broken text is, or an end that comes too early, doesn't hang on what was wanted.
func (r *reader) refuse(e api.Errno) {
	switch r.next.kind {
	case nothing:
		e = api.ErrScriptEnd
	case broken:
		e = api.ErrScriptWord
	}
	r.fail(r.next.at, e)
}

// close wants that nothing is left.
func (r *reader) close() {
	if r.more() {
		r.refuse(api.ErrScriptWord)
	}
}

// has tells whether a word comes next.
func (r *reader) has(s string) bool { return r.next.kind == word && r.next.says == s }

// want wants a certain word.
func (r *reader) want(s string) {
	if !r.has(s) {
		r.refuse(api.ErrScriptWord)
		return
	}
	r.pass()
}

// either wants one of two words, and tells whether it is the second.
func (r *reader) either(first, second string) bool {
	if r.has(second) {
		r.pass()
		return true
	}
	r.want(first)
	return false
}

// mark takes a word or nothing. What else comes is left to what follows: in the end it can't stand there.
func (r *reader) mark(s string, has *bool) {
	if r.has(s) {
		*has = true
		r.pass()
	}
}

func (r *reader) number(n *int) { r.bounded(n, -greatest, greatest) }

// bounded wants a number from least to most.
func (r *reader) bounded(n *int, least, most int) {
	x, ok := numberOf(r.next)
	if !ok || x < least || x > most {
		r.refuse(api.ErrScriptNumber)
		return
	}
	*n = x
	r.pass()
}

// numberOf tells the number that a token is. Just the one form in which numbers are written is one.
func numberOf(t token) (int, bool) {
	n, err := strconv.Atoi(t.says)
	return n, t.kind == word && err == nil && strconv.Itoa(n) == t.says
}

func (r *reader) text(s *string) {
	if r.next.kind != quoted {
		r.refuse(api.ErrScriptWord)
		return
	}
	*s = r.next.says
	r.pass()
}

func (r *reader) data(b *[]byte) {
	var s string
	r.text(&s)
	*b = []byte(s)
}

func (r *reader) numbers(l *[]int) { readAll(r, l, r.number) }

func (r *reader) texts(l *[]string) { readAll(r, l, r.text) }

func (r *reader) asks(l *[]api.Ask) {
	readAll(r, l, func(a *api.Ask) {
		r.text(&a.Filter)
		r.number(&a.QoS)
	})
}

// readAll reads things as long as there are more.
func readAll[T any](r *reader, l *[]T, read func(x *T)) {
	for r.more() {
		var x T
		read(&x)
		*l = append(*l, x)
	}
}

func (r *reader) packet(p *api.Packet) {
	if x, ok := wanted(r, packetRows()); ok {
		b := body{api.Packet{Kind: x.kind}}
		x.rest(&b, r)
		*p = b.Packet
	}
}

// wanted wants one of a table's words.
func wanted[K comparable, T any](r *reader, rows []row[K, T]) (row[K, T], bool) {
	for _, x := range rows {
		if r.has(x.word) {
			r.pass()
			return x, true
		}
	}
	r.refuse(api.ErrScriptWord)
	return row[K, T]{}, false
}
