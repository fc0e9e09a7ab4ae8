package image_test

import (
	"errors"
	"fmt"
	"math"
	"math/rand"
	"slices"
	"strings"
	"testing"
	"unicode/utf8"

	"crier/api"
)

// The bounds and the errors, as numbers: the tests hold the document's, whatever the constants are.
const (
	maxSessions = 65536
	maxSubs     = 65536
	maxRetained = 1048576
	maxAutos    = 2147483647
	maxWindow   = 65535
	maxQueue    = 65536
	maxID       = 65535
	maxText     = 65535
	maxLength   = 268435455

	errMark     api.Errno = 150
	errForm     api.Errno = 151
	errClient   api.Errno = 152
	errSubs     api.Errno = 153
	errWindow   api.Errno = 154
	errInbox    api.Errno = 155
	errRetained api.Errno = 156
	errMany     api.Errno = 157
)

// noTexts: what is no text.
func noTexts() []string {
	return []string{"\x00", "a\x00", "\xFF", "a\xC0\x80", "\xED\xA0\x80", "\xF4\x90\x80\x80", "b\xE2\x82", strings.Repeat("c", maxText+1)}
}

// noTopics: what is no topic.
func noTopics() []string { return append(noTexts(), "", "+", "#", "a/+", "a#b") }

// noFilters: what is no filter.
func noFilters() []string { return append(noTexts(), "", "a+", "#/a", "a/#/", "++", "a#") }

// noQoS: numbers that are no quality; some would be one, if only a part of them counted.
func noQoS() []int {
	return []int{-1, 3, 4, 0x80, 256, 257, 258, 1 << 32, 1<<32 + 1, math.MinInt, math.MaxInt}
}

// noID: numbers that are no packet number.
func noID() []int {
	return []int{0, -1, 65536, 65537, 1 << 32, 1<<32 + 1, math.MinInt, math.MaxInt}
}

func note(topic string, qos int) api.Message {
	return api.Message{Topic: topic, Payload: []byte("<" + topic + ">"), QoS: qos}
}

func kept(topic string, qos int) api.Message {
	m := note(topic, qos)
	m.Retain = true
	return m
}

// full tells an image with all that one can have.
func full() api.Image {
	s := api.Session{
		Client: "c",
		Subs:   []api.Ask{{Filter: "#", QoS: 2}, {Filter: "a/+"}, {Filter: "a.b", QoS: 1}},
		Window: api.Window{
			Last:   300,
			Flight: []api.Flight{{ID: 7, Released: true}, {ID: 6, Msg: kept("a/b", 2)}, {ID: 65535, Msg: note("é", 1)}},
			Queue:  []api.Message{note("q", 1), {Topic: "r", QoS: 2, Retain: true}},
		},
		Inbox: []int{1, 300, 65535},
	}
	o := api.Session{Client: "ca", Subs: []api.Ask{{Filter: "x", QoS: 1}}, Window: api.Window{Queue: []api.Message{note("z", 2)}}, Inbox: []int{5}}
	return api.Image{Autos: 258, Sessions: []api.Session{s, o, {Client: "d"}}, Retained: []api.Message{kept("a/b", 2), kept("a.b", 1), kept("b", 0)}}
}

// isText, isTopic and isFilter: DOC.md's words.
func isText(s string) bool {
	return len(s) <= maxText && utf8.ValidString(s) && !strings.Contains(s, "\x00")
}

func isTopic(s string) bool { return isText(s) && s != "" && !strings.ContainsAny(s, "+#") }

func isFilter(s string) bool {
	if !isText(s) || s == "" {
		return false
	}
	l := strings.Split(s, "/")
	for i, level := range l {
		if strings.ContainsAny(level, "+#") && level != "+" && (level != "#" || i < len(l)-1) {
			return false
		}
	}
	return true
}

// ahead tells whether a text stands ahead of another one in the order of topics: a list of levels ahead of those that it begins.
func ahead(a, b string) bool {
	return slices.Compare(strings.Split(a, "/"), strings.Split(b, "/")) < 0
}

func isQoS(n, least int) bool { return n >= least && n <= 2 }

func isID(n int) bool { return n >= 1 && n <= maxID }

// isSent tells whether a message fits a Publish.
func isSent(m api.Message, least int) bool {
	size := 2 + len(m.Topic) + len(m.Payload)
	if m.QoS != 0 {
		size += 2
	}
	return isTopic(m.Topic) && isQoS(m.QoS, least) && size <= maxLength
}

// checked: P15.1.
func checked(m api.Image) (int, api.Errno) {
	if len(m.Sessions) > maxSessions || len(m.Retained) > maxRetained || m.Autos < 0 || m.Autos > maxAutos {
		return 0, errMany
	}
	for i, s := range m.Sessions {
		switch {
		case !isText(s.Client), s.Client == "", i > 0 && m.Sessions[i-1].Client >= s.Client:
			return i, errClient
		case len(s.Subs) > maxSubs:
			return i, errMany
		case !subsCanBe(s.Subs):
			return i, errSubs
		case !windowCanBe(s.Window):
			return i, errWindow
		case !inboxCanBe(s.Inbox):
			return i, errInbox
		}
	}
	for i, x := range m.Retained {
		if !isSent(x, 0) || len(x.Payload) == 0 || !x.Retain || i > 0 && !ahead(m.Retained[i-1].Topic, x.Topic) {
			return len(m.Sessions) + i, errRetained
		}
	}
	return 0, 0
}

func subsCanBe(l []api.Ask) bool {
	for i, a := range l {
		if !isFilter(a.Filter) || !isQoS(a.QoS, 0) || i > 0 && !ahead(l[i-1].Filter, a.Filter) {
			return false
		}
	}
	return true
}

func windowCanBe(w api.Window) bool {
	if w.Last < 0 || w.Last > maxID || len(w.Flight) > maxWindow || len(w.Queue) > maxQueue {
		return false
	}
	seen := map[int]bool{}
	for _, f := range w.Flight {
		if !isID(f.ID) || seen[f.ID] || !f.Released && !isSent(f.Msg, 1) {
			return false
		}
		if f.Released && (f.Msg.Topic != "" || len(f.Msg.Payload) > 0 || f.Msg.QoS != 0 || f.Msg.Retain) {
			return false
		}
		seen[f.ID] = true
	}
	for _, m := range w.Queue {
		if !isSent(m, 1) {
			return false
		}
	}
	return true
}

func inboxCanBe(l []int) bool {
	for i, id := range l {
		if !isID(id) || i > 0 && l[i-1] >= id {
			return false
		}
	}
	return true
}

// place: a field's kind, and where it stands.
type place struct {
	kind       string
	begin, end int
}

// layer lays an image's bytes by P15.2, and notes each field.
type layer struct {
	b      []byte
	fields []place
}

func (l *layer) put(kind string, b ...byte) {
	l.fields = append(l.fields, place{kind, len(l.b), len(l.b) + len(b)})
	l.b = append(l.b, b...)
}

func (l *layer) number(n int) { l.put("number", byte(n/256), byte(n%256)) }

func (l *layer) length(n int) { l.put("length", groups(n)...) }

func (l *layer) text(s string) {
	l.put("text", append([]byte{byte(len(s) / 256), byte(len(s) % 256)}, s...)...)
}

// groups tells a length in its shortest form.
func groups(n int) []byte {
	if n < 128 {
		return []byte{byte(n)}
	}
	return append([]byte{byte(n%128 + 128)}, groups(n/128)...)
}

func (l *layer) message(m api.Message) {
	l.text(m.Topic)
	l.put("quality", byte(m.QoS))
	l.length(len(m.Payload))
	l.put("payload", m.Payload...)
}

func retainByte(m api.Message) byte {
	if m.Retain {
		return 1
	}
	return 0
}

func (l *layer) session(s api.Session) {
	l.text(s.Client)
	l.length(len(s.Subs))
	for _, a := range s.Subs {
		l.text(a.Filter)
		l.put("quality", byte(a.QoS))
	}
	l.number(s.Window.Last)
	l.length(len(s.Window.Flight))
	for _, f := range s.Window.Flight {
		l.number(f.ID)
		if f.Released {
			l.put("mark of a flight", 2)
			continue
		}
		l.put("mark of a flight", retainByte(f.Msg))
		l.message(f.Msg)
	}
	l.length(len(s.Window.Queue))
	for _, m := range s.Window.Queue {
		l.put("mark", retainByte(m))
		l.message(m)
	}
	l.length(len(s.Inbox))
	for _, id := range s.Inbox {
		l.number(id)
	}
}

// laid: P15.2.
func laid(m api.Image) *layer {
	l := &layer{b: []byte{0x63, 0x72, 0x69, 0x31}}
	l.put("number", byte(m.Autos>>24), byte(m.Autos>>16), byte(m.Autos>>8), byte(m.Autos))
	l.length(len(m.Sessions))
	for _, s := range m.Sessions {
		l.session(s)
	}
	l.length(len(m.Retained))
	for _, x := range m.Retained {
		l.message(x)
	}
	return l
}

// wrong: a fault of the model's reader.
type wrong struct {
	at int
	e  api.Errno
}

// parser: P15.4, with one place that goes on.
type parser struct {
	b  string
	at int
}

// take takes a field that is n bytes, or what read says of it.
func (p *parser) take(n int) string {
	if n > len(p.b)-p.at {
		panic(wrong{p.at, errForm})
	}
	p.at += n
	return p.b[p.at-n : p.at]
}

func (p *parser) number(size int) int {
	n := 0
	for _, c := range []byte(p.take(size)) {
		n = n*256 + int(c)
	}
	return n
}

func (p *parser) length() int {
	for k := 1; k <= 4 && p.at+k <= len(p.b); k++ {
		if p.b[p.at+k-1] < 128 {
			n := 0
			for i := k - 1; i >= 0; i-- {
				n = n*128 + int(p.b[p.at+i]%128)
			}
			if len(groups(n)) != k {
				break
			}
			p.at += k
			return n
		}
	}
	panic(wrong{p.at, errForm})
}

func (p *parser) text() string {
	begin := p.at
	if len(p.b)-begin < 2 {
		panic(wrong{begin, errForm})
	}
	n := p.number(2)
	if n > len(p.b)-p.at || !isText(p.b[p.at:p.at+n]) {
		panic(wrong{begin, errForm})
	}
	return p.take(n)
}

func (p *parser) mark(most byte) byte {
	begin := p.at
	c := p.take(1)[0]
	if c > most {
		panic(wrong{begin, errForm})
	}
	return c
}

func (p *parser) message(retain bool) api.Message {
	m := api.Message{Retain: retain}
	m.Topic = p.text()
	m.QoS = p.number(1)
	m.Payload = []byte(p.take(p.length()))
	return m
}

func (p *parser) session() api.Session {
	var s api.Session
	s.Client = p.text()
	for n := p.length(); n > 0; n-- {
		filter := p.text()
		s.Subs = append(s.Subs, api.Ask{Filter: filter, QoS: p.number(1)})
	}
	s.Window.Last = p.number(2)
	for n := p.length(); n > 0; n-- {
		f := api.Flight{ID: p.number(2)}
		mark := p.mark(2)
		f.Released = mark == 2
		if !f.Released {
			f.Msg = p.message(mark == 1)
		}
		s.Window.Flight = append(s.Window.Flight, f)
	}
	for n := p.length(); n > 0; n-- {
		s.Window.Queue = append(s.Window.Queue, p.message(p.mark(1) == 1))
	}
	for n := p.length(); n > 0; n-- {
		s.Inbox = append(s.Inbox, p.number(2))
	}
	return s
}

// parsed: P15.4: an image, or a fault.
func parsed(b string) (m api.Image, f wrong) {
	defer func() {
		if w, ok := recover().(wrong); ok {
			m, f = api.Image{}, w
		}
	}()
	if !strings.HasPrefix(b, "cri1") {
		panic(wrong{0, errMark})
	}
	p := &parser{b, 4}
	m.Autos = p.number(4)
	for n := p.length(); n > 0; n-- {
		m.Sessions = append(m.Sessions, p.session())
	}
	for n := p.length(); n > 0; n-- {
		m.Retained = append(m.Retained, p.message(true))
	}
	if p.at < len(b) {
		panic(wrong{p.at, errForm})
	}
	if _, e := checked(m); e != 0 {
		panic(wrong{4, e})
	}
	return m, wrong{}
}

// drawn tells an image as a text; two that are the same have one.
func drawn(m api.Image) string {
	var b strings.Builder
	fmt.Fprint(&b, m.Autos)
	for _, s := range m.Sessions {
		fmt.Fprintf(&b, "; %q, subs", s.Client)
		for _, a := range s.Subs {
			fmt.Fprintf(&b, " (%q %d)", a.Filter, a.QoS)
		}
		fmt.Fprintf(&b, ", last %d, flights", s.Window.Last)
		for _, f := range s.Window.Flight {
			fmt.Fprintf(&b, " %d %t %s", f.ID, f.Released, told(f.Msg))
		}
		b.WriteString(", queue")
		for _, x := range s.Window.Queue {
			b.WriteString(told(x))
		}
		fmt.Fprintf(&b, ", inbox %d", append([]int{}, s.Inbox...))
	}
	b.WriteString("; retained")
	for _, x := range m.Retained {
		b.WriteString(told(x))
	}
	return b.String()
}

func told(m api.Message) string {
	return fmt.Sprintf(" (%q %q %d %t)", m.Topic, m.Payload, m.QoS, m.Retain)
}

// faultOf tells an error's place and its number; it must be a *api.Fault, or nil.
func faultOf(t *testing.T, err error) wrong {
	t.Helper()
	if err == nil {
		return wrong{}
	}
	f, ok := err.(*api.Fault)
	if !ok || f == nil || f.Err == 0 || !errors.Is(err, f.Err) {
		t.Fatalf("DOC 5: an error that is no fault: %#v", err)
	}
	return wrong{f.At, f.Err}
}

func pick[T any](r *rand.Rand, l []T) T { return l[r.Intn(len(l))] }

// some makes up to n different texts of a kind, in an order.
func some(r *rand.Rand, n int, one func() string, less func(a, b string) bool) []string {
	var l []string
	for range r.Intn(n + 1) {
		if s := one(); !slices.Contains(l, s) {
			l = append(l, s)
		}
	}
	slices.SortFunc(l, func(a, b string) int {
		if less(a, b) {
			return -1
		}
		return 1
	})
	return l
}

func someTopic(r *rand.Rand) string {
	l := make([]string, 1+r.Intn(3))
	for i := range l {
		l[i] = pick(r, []string{"", "a", "b", "é", "$", "a.b", "aa"})
	}
	if s := strings.Join(l, "/"); s != "" {
		return s
	}
	return "/"
}

func someFilter(r *rand.Rand) string {
	l := strings.Split(someTopic(r), "/")
	for i := range l {
		if r.Intn(3) == 0 {
			l[i] = "+"
		}
	}
	if r.Intn(3) == 0 {
		l[len(l)-1] = "#"
	}
	if s := strings.Join(l, "/"); s != "" {
		return s
	}
	return "#"
}

func someMessage(r *rand.Rand, qos int) api.Message {
	payload := make([]byte, pick(r, []int{0, 1, 2, 5, 127, 128, 200}))
	r.Read(payload)
	return api.Message{Topic: someTopic(r), Payload: payload, QoS: qos, Retain: r.Intn(2) == 0}
}

// someImage makes an image that can be.
func someImage(r *rand.Rand) api.Image {
	m := api.Image{Autos: pick(r, []int{0, 1, 255, 256, 65536, maxAutos, r.Intn(maxAutos)})}
	names := some(r, 4, func() string { return pick(r, []string{"c", "d", "ca", "c/", "c.", "é", "\x01", "#"}) }, func(a, b string) bool { return a < b })
	for _, name := range names {
		m.Sessions = append(m.Sessions, someSession(r, name))
	}
	for _, s := range some(r, 5, func() string { return someTopic(r) }, ahead) {
		x := someMessage(r, r.Intn(3))
		x.Topic, x.Retain, x.Payload = s, true, append(x.Payload, 'x')
		m.Retained = append(m.Retained, x)
	}
	return m
}

func someSession(r *rand.Rand, name string) api.Session {
	s := api.Session{Client: name, Window: api.Window{Last: pick(r, []int{0, 1, 300, maxID})}}
	for _, f := range some(r, 4, func() string { return someFilter(r) }, ahead) {
		s.Subs = append(s.Subs, api.Ask{Filter: f, QoS: r.Intn(3)})
	}
	for _, id := range r.Perm(9)[:r.Intn(4)] {
		f := api.Flight{ID: maxID - id*8191, Released: r.Intn(3) == 0}
		if !f.Released {
			f.Msg = someMessage(r, 1+r.Intn(2))
		}
		s.Window.Flight = append(s.Window.Flight, f)
	}
	for range r.Intn(3) {
		s.Window.Queue = append(s.Window.Queue, someMessage(r, 1+r.Intn(2)))
	}
	for id := r.Intn(300); id <= maxID && r.Intn(4) > 0; id += 1 + r.Intn(40000) {
		if id > 0 {
			s.Inbox = append(s.Inbox, id)
		}
	}
	return s
}

// copied tells the same image in memory of its own.
func copied(m api.Image) api.Image {
	m.Sessions = slices.Clone(m.Sessions)
	for i := range m.Sessions {
		s := &m.Sessions[i]
		s.Subs, s.Inbox = slices.Clone(s.Subs), slices.Clone(s.Inbox)
		s.Window.Flight = slices.Clone(s.Window.Flight)
		for j := range s.Window.Flight {
			s.Window.Flight[j].Msg.Payload = slices.Clone(s.Window.Flight[j].Msg.Payload)
		}
		s.Window.Queue = copiedMessages(s.Window.Queue)
	}
	m.Retained = copiedMessages(m.Retained)
	return m
}

func copiedMessages(l []api.Message) []api.Message {
	l = slices.Clone(l)
	for i := range l {
		l[i].Payload = slices.Clone(l[i].Payload)
	}
	return l
}
