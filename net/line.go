package net

// line: bytes on the way, first come first.
type line struct {
	list []byte
	gone int // how many of the list, from its first on, have come
}

func (l *line) length() int { return len(l.list) - l.gone }

func (l *line) lay(b []byte) { l.list = append(l.list, b...) }

// take takes the first n bytes, or all, if there are fewer; they stay as they are, whatever is laid. The list is renewed when half of it is gone: each time would be long for a long line, and never would keep the room of its fullest time.
func (l *line) take(n int) []byte {
	end := l.gone + min(max(n, 0), l.length())
	came := l.list[l.gone:end:end]
	l.gone = end
	if 2*l.gone >= len(l.list) {
		l.list, l.gone = append([]byte(nil), l.list[l.gone:]...), 0
	}
	return came
}
