package window

import "crier/api"

// line: messages that wait, first come first.
type line struct {
	list []api.Message
	gone int // how many of the list are gone, from its first on: they are zero
}

func (l *line) length() int { return len(l.list) - l.gone }

func (l *line) join(m api.Message) { l.list = append(l.list, m) }

// next takes the first one out; there must be one. The list is renewed when half of it is gone: each time would be long for a long line, and never would keep the room of its fullest time.
func (l *line) next() api.Message {
	m := l.list[l.gone]
	l.list[l.gone] = api.Message{}
	l.gone++
	if 2*l.gone >= len(l.list) {
		l.list, l.gone = append([]api.Message(nil), l.list[l.gone:]...), 0
	}
	return m
}

// told tells the messages, each with a payload of its own.
func (l *line) told() []api.Message {
	out := make([]api.Message, 0, l.length())
	for _, m := range l.list[l.gone:] {
		out = append(out, apart(m))
	}
	return out
}
