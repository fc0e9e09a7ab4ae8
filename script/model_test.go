package script_test

import (
	"regexp"
	"strconv"
	"strings"

	"crier/api"
)

// A model of P20.1 to P20.7: what may stand in a line is a pattern, which is gone through with the line's tokens.

// patterns: by a line's first word. N: a number; T: a quoted text; D: one that is contents; M: a message; A: a filter and a number; P: a packet; x?: the word or nothing; x:Y?: the word and Y, or nothing; Y*: any number of Y.
var patterns = map[string]string{
	"open": "N", "close": "N", "bytes": "N D", "tick": "", "send": "N P",
	"up": "N", "cut": "N", "fade": "N", "leave": "N", "publish": "N M", "subscribe": "N A*", "unsubscribe": "N T*",
	"in": "N N", "out": "N N", "second": "", "reboot": "", "rest": "", "show": "", "got": "N",
}

var packetPatterns = map[string]string{
	"connect": "N N T clean? will:M? user:T? pass:T?", "connack": "N present?", "publish": "M dup? id:N?",
	"puback": "N", "pubrec": "N", "pubrel": "N", "pubcomp": "N", "unsuback": "N",
	"subscribe": "N A*", "suback": "N N*", "unsubscribe": "N T*",
	"pingreq": "", "pingresp": "", "disconnect": "",
}

const messagePattern = "T D N retain?"

// bit: a token of the model.
type bit struct {
	at   int
	kind byte // w: a word; q: a quoted text; b: one that can't stand anywhere
	text string
}

var bitForms = []struct {
	kind byte
	form *regexp.Regexp
}{
	{' ', regexp.MustCompile(`^[ \t]+`)},
	{' ', regexp.MustCompile(`^(?s)#.*$`)},
	{'q', regexp.MustCompile(`^"([ !#-\[\]-~]|\\["\\]|\\x[0-9a-f][0-9a-f])*"`)},
	{'b', regexp.MustCompile(`^(?s)".*$`)},
	{'w', regexp.MustCompile(`^[^ \t#"]+`)},
}

var escapeForm = regexp.MustCompile(`\\(["\\]|x..)`)

// bitsOf tells a line's tokens.
func bitsOf(line string, begin int) []bit {
	var l []bit
	for i := 0; i < len(line); {
		for _, f := range bitForms {
			s := f.form.FindString(line[i:])
			if s == "" {
				continue
			}
			if f.kind != ' ' {
				l = append(l, bit{begin + i, f.kind, s})
			}
			i += len(s)
			break
		}
	}
	for i, x := range l {
		if x.kind == 'q' {
			l[i].text = escapeForm.ReplaceAllStringFunc(x.text[1:len(x.text)-1], func(s string) string {
				if s[1] != 'x' {
					return s[1:]
				}
				n, _ := strconv.ParseUint(s[2:], 16, 8)
				return string([]byte{byte(n)})
			})
		}
	}
	return l
}

var numberForm = regexp.MustCompile(`^(0|-?[1-9][0-9]{0,12})$`)

func isNumber(s string) bool {
	n, _ := strconv.Atoi(s)
	return numberForm.MatchString(s) && n <= 1<<40 && n >= -1<<40
}

// walk: a line's tokens that are left, and what was made of the others.
type walk struct {
	left    []bit
	end     int // of the line
	fault   string
	out     things
	content int
}

func (w *walk) more() bool { return w.fault == "" && len(w.left) > 0 }

// need takes the next token, if it is right; else there is a fault.
func (w *walk) need(e api.Errno, right func(x bit) bool) bit {
	var x bit
	if w.fault == "" && len(w.left) == 0 {
		w.fault = at(api.ErrScriptEnd, w.end)
	}
	if w.fault != "" {
		return x
	}
	if x = w.left[0]; x.kind == 'b' {
		e = api.ErrScriptWord
	}
	if x.kind == 'b' || !right(x) {
		w.fault = at(e, x.at)
		return bit{}
	}
	w.left = w.left[1:]
	w.out = append(w.out, thing{x.text, x.kind == 'q'})
	return x
}

func (w *walk) number() bit {
	return w.need(api.ErrScriptNumber, func(x bit) bool { return x.kind == 'w' && isNumber(x.text) })
}

func (w *walk) quoted() bit {
	return w.need(api.ErrScriptWord, func(x bit) bool { return x.kind == 'q' })
}

func (w *walk) oneOf(words ...string) bit {
	return w.need(api.ErrScriptWord, func(x bit) bool {
		for _, s := range words {
			if x.kind == 'w' && x.text == s {
				return true
			}
		}
		return false
	})
}

func (w *walk) comes(word string) bool {
	return w.more() && w.left[0].kind == 'w' && w.left[0].text == word
}

// follow goes through a pattern.
func (w *walk) follow(pattern string) {
	for _, item := range strings.Fields(pattern) {
		if name, ok := strings.CutSuffix(item, "?"); ok {
			word, inner, _ := strings.Cut(name, ":")
			if w.comes(word) {
				w.oneOf(word)
				w.follow(inner)
			}
		} else if name, ok := strings.CutSuffix(item, "*"); ok {
			for w.more() {
				w.follow(name)
			}
		} else {
			w.item(item)
		}
	}
}

func (w *walk) item(item string) {
	switch item {
	case "N":
		w.number()
	case "T":
		w.quoted()
	case "D":
		w.content += len(w.quoted().text)
	case "M":
		w.follow(messagePattern)
	case "A":
		w.follow("T N")
	case "P":
		var words []string
		for s := range packetPatterns {
			words = append(words, s)
		}
		w.follow(packetPatterns[w.oneOf(words...).text])
	}
}

func (w *walk) over() {
	if w.more() {
		w.fault = at(api.ErrScriptWord, w.left[0].at)
	}
}

// story: what the model has read of a script.
type story struct {
	lines                    []string
	content, times           int
	linesAhead, contentAhead int
}

// modelParse tells the lines of the text of what Parse reads, and its fault.
func modelParse(text string) ([]string, string) {
	if len(text) > 65536 {
		return nil, at(api.ErrScriptLong, 0)
	}
	m := &story{}
	begin := 0
	for _, line := range strings.Split(text, "\n") {
		w := &walk{left: bitsOf(line, begin), end: begin + len(line)}
		if begin += len(line) + 1; !w.more() {
			continue
		}
		if m.line(w, w.left[0]); w.fault != "" {
			return nil, w.fault
		}
	}
	if m.times > 0 {
		return nil, at(api.ErrScriptEnd, len(text))
	}
	return m.lines, "nil"
}

func (m *story) line(w *walk, first bit) {
	pattern, isStep := patterns[first.text]
	switch {
	case first.kind != 'w':
		w.fault = at(api.ErrScriptWord, first.at)
	case first.text == "repeat" && m.times == 0:
		w.oneOf("repeat")
		n := w.need(api.ErrScriptNumber, func(x bit) bool {
			n, _ := strconv.Atoi(x.text)
			return x.kind == 'w' && isNumber(x.text) && n >= 1 && n <= 1000
		})
		w.over()
		m.times, _ = strconv.Atoi(n.text)
		m.linesAhead, m.contentAhead = len(m.lines), m.content
	case first.text == "end" && m.times > 0:
		m.end(w, first)
	case isStep:
		m.step(w, first, pattern)
	default:
		w.fault = at(api.ErrScriptWord, first.at)
	}
}

func (m *story) end(w *walk, first bit) {
	body := m.lines[m.linesAhead:]
	content := m.contentAhead + m.times*(m.content-m.contentAhead)
	if m.linesAhead+m.times*len(body) > 4000 {
		w.fault = at(api.ErrScriptMany, first.at)
	} else if content > 4194304 {
		w.fault = at(api.ErrScriptLong, first.at)
	}
	w.oneOf("end")
	if w.over(); w.fault != "" {
		return
	}
	l := m.lines[:m.linesAhead:m.linesAhead]
	for range m.times {
		l = append(l, body...)
	}
	m.lines, m.content, m.times = l, content, 0
}

func (m *story) step(w *walk, first bit, pattern string) {
	if len(m.lines) == 4000 {
		w.fault = at(api.ErrScriptMany, first.at)
	}
	w.oneOf(first.text)
	w.follow(pattern)
	w.over()
	m.content += w.content
	if w.fault == "" && m.content > 4194304 {
		w.fault = at(api.ErrScriptLong, first.at)
	}
	m.lines = append(m.lines, strings.TrimSuffix(w.out.line(), " id 0"))
}

// modelSetup tells what stands in a setup, and its fault.
func modelSetup(text string) (things, string) {
	if len(text) > 4000 {
		return nil, at(api.ErrScriptLong, 0)
	}
	w := &walk{end: len(text)}
	begin := 0
	for _, line := range strings.Split(text, "\n") {
		w.left = append(w.left, bitsOf(line, begin)...)
		begin += len(line) + 1
	}
	w.oneOf("tries", "list")
	for _, word := range []string{"cache", "window", "queue", "subs", "retained", "sessions", "most", "patience"} {
		w.oneOf(word)
		w.number()
	}
	for w.comes("user") {
		w.oneOf("user")
		w.follow("T T")
	}
	for w.more() {
		w.oneOf("client")
		w.quoted()
		w.oneOf("clean", "lasting")
		w.oneOf("keep")
		w.number()
		w.oneOf("window")
		w.number()
	}
	if w.fault != "" {
		return nil, w.fault
	}
	return w.out, "nil"
}
