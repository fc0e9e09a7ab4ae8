package script

import (
	"strconv"

	"crier/api"
)

// writer: it writes a line, single blanks between what stands in it.
type writer struct {
	line []byte
	most int // how many bytes a line may have: of a longer one just that is told truly, that it is longer
}

func (w *writer) word(s string) {
	if len(w.line) > 0 {
		w.line = append(w.line, ' ')
	}
	w.line = append(w.line, s...)
}

func (w *writer) mark(s string, has *bool) {
	if *has {
		w.word(s)
	}
}

func (w *writer) number(n *int) { w.word(strconv.Itoa(*n)) }

func (w *writer) text(s *string) { w.quote([]byte((*s)[:min(len(*s), w.most)])) }

func (w *writer) data(b *[]byte) { w.quote((*b)[:min(len(*b), w.most)]) }

func (w *writer) quote(b []byte) {
	w.word(`"`)
	for _, c := range b {
		switch {
		case c == '"' || c == '\\':
			w.line = append(w.line, '\\', c)
		case isPlain(c):
			w.line = append(w.line, c)
		default:
			w.line = append(w.line, '\\', 'x', hexDigits[c>>4], hexDigits[c&0xf])
		}
	}
	w.line = append(w.line, '"')
}

func (w *writer) numbers(l *[]int) {
	for _, n := range *l {
		w.number(&n)
	}
}

func (w *writer) texts(l *[]string) {
	for _, s := range *l {
		w.text(&s)
	}
}

func (w *writer) asks(l *[]api.Ask) {
	for _, a := range *l {
		w.text(&a.Filter)
		w.number(&a.QoS)
	}
}

// packet writes a packet; of one of no kind nothing, by which the line is too short to be read.
func (w *writer) packet(p *api.Packet) { write(w, packetRows(), p.Kind, &body{*p}) }

// lineOf tells a step's line, whether it is read as that step or not; none of a step of no kind.
func lineOf(s api.Step) string {
	w := &writer{most: api.MaxScript}
	write(w, stepRows(), kindsOf(s), &step{s})
	return string(w.line)
}

// write writes the word of a kind, and what stands behind it.
func write[K comparable, T any](w *writer, rows []row[K, T], kind K, x *T) {
	for _, y := range rows {
		if y.kind == kind {
			w.word(y.word)
			y.rest(x, w)
		}
	}
}
