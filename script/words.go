package script

import "strings"

// Kinds of tokens.
const (
	nothing = iota // there is no more
	word
	quoted
	broken // a quoted text that can't stand anywhere
)

// token: what stands at a place.
type token struct {
	kind    int
	at, end int
	says    string // a word itself, or the bytes that a quoted text stands for
}

// scan tells what comes next from a place on. A line feed is passed over like a blank: a setup is read over all its lines.
func scan(text string, from int) token {
	at := passBlanks(text, from)
	switch {
	case at == len(text):
		return token{kind: nothing, at: at, end: at}
	case text[at] == '"':
		return scanQuoted(text, at)
	}
	end := at
	for end < len(text) && !endsWord(text[end]) {
		end++
	}
	return token{kind: word, at: at, end: end, says: text[at:end]}
}

// passBlanks passes over blanks and remarks.
func passBlanks(text string, at int) int {
	for ; at < len(text); at++ {
		switch text[at] {
		case ' ', '\t', '\n':
		case '#':
			size := strings.IndexByte(text[at:], '\n')
			if size < 0 {
				return len(text)
			}
			at += size
		default:
			return at
		}
	}
	return at
}

func endsWord(c byte) bool {
	return c == ' ' || c == '\t' || c == '\n' || c == '#' || c == '"'
}

// scanQuoted tells the quoted text whose first double quote stands there.
func scanQuoted(text string, at int) token {
	var b []byte
	for i := at + 1; i < len(text) && isPlain(text[i]); i++ {
		c, size := text[i], 1
		switch c {
		case '"':
			return token{kind: quoted, at: at, end: i + 1, says: string(b)}
		case '\\':
			if c, size = escaped(text[i:]); size == 0 {
				return token{kind: broken, at: at}
			}
		}
		b = append(b, c)
		i += size - 1
	}
	return token{kind: broken, at: at}
}

// isPlain tells whether a byte may stand in a quoted text.
func isPlain(c byte) bool { return c >= 0x20 && c <= 0x7e }

const hexDigits = "0123456789abcdef"

// escaped tells the byte that an escape stands for, and how many bytes the escape has: 0, if it is none.
func escaped(s string) (byte, int) {
	switch {
	case strings.HasPrefix(s, `\"`), strings.HasPrefix(s, `\\`):
		return s[1], 2
	case strings.HasPrefix(s, `\x`) && len(s) >= 4:
		high, low := strings.IndexByte(hexDigits, s[2]), strings.IndexByte(hexDigits, s[3])
		if high >= 0 && low >= 0 {
			return byte(high<<4 | low), 4
		}
	}
	return 0, 0
}
