package script_test

import (
	"fmt"
	"math/rand"
	"reflect"
	"strconv"
	"strings"
	"testing"

	"crier/api"
	"crier/script"
)

// fault tells a number and a place; "nil" without a fault.
func fault(err error) string {
	if err == nil {
		return "nil"
	}
	f, ok := err.(*api.Fault)
	if !ok || f == nil {
		return fmt.Sprintf("no fault: %#v", err)
	}
	return at(f.Err, f.At)
}

func at(e api.Errno, place int) string { return fmt.Sprintf("%d at %d", int(e), place) }

// parsed tells the steps of a text that has to be right.
func parsed(t *testing.T, text string) []api.Step {
	t.Helper()
	l, err := script.Parse(text)
	if err != nil {
		t.Fatalf("P20.5: %.300q: %v", text, err)
	}
	return l
}

// printed tells the text of steps that have to have one.
func printed(t *testing.T, l []api.Step) string {
	t.Helper()
	text, err := script.Print(l)
	if err != nil {
		t.Fatalf("P20.9: %v", err)
	}
	return text
}

// plain tells a step whose lists without elements are nil.
func plain(s api.Step) api.Step {
	p, m := &s.Packet, &s.Move
	for _, l := range []*[]byte{&s.Event.Data, &p.Will.Payload, &p.Pass, &p.Msg.Payload, &m.Msg.Payload} {
		if len(*l) == 0 {
			*l = nil
		}
	}
	for _, l := range []*[]api.Ask{&p.Asks, &m.Asks} {
		if len(*l) == 0 {
			*l = nil
		}
	}
	for _, l := range []*[]string{&p.Filters, &m.Filters} {
		if len(*l) == 0 {
			*l = nil
		}
	}
	if len(p.Codes) == 0 {
		p.Codes = nil
	}
	return s
}

// same tells whether steps have the same values.
func same(a, b []api.Step) bool {
	if len(a) != len(b) {
		return false
	}
	for i := range a {
		if !reflect.DeepEqual(plain(a[i]), plain(b[i])) {
			return false
		}
	}
	return true
}

// thing: a word, or a text that stands in quotes.
type thing struct {
	text   string
	quoted bool
}

// things: what stands in a line.
type things []thing

func (l things) word(s string) things { return append(l, thing{text: s}) }

func (l things) number(n int) things { return l.word(strconv.Itoa(n)) }

func (l things) quote(s string) things { return append(l, thing{text: s, quoted: true}) }

func (l things) mark(s string, has bool) things {
	if has {
		return l.word(s)
	}
	return l
}

func (l things) message(m api.Message) things {
	return l.quote(m.Topic).quote(string(m.Payload)).number(m.QoS).mark("retain", m.Retain)
}

func (l things) asks(asks []api.Ask) things {
	for _, a := range asks {
		l = l.quote(a.Filter).number(a.QoS)
	}
	return l
}

func (l things) texts(texts []string) things {
	for _, s := range texts {
		l = l.quote(s)
	}
	return l
}

func (l things) packet(p api.Packet) things {
	l = l.word([]string{"", "connect", "connack", "publish", "puback", "pubrec", "pubrel", "pubcomp", "subscribe", "suback", "unsubscribe", "unsuback", "pingreq", "pingresp", "disconnect"}[p.Kind])
	switch p.Kind {
	case api.Connect:
		l = l.number(p.Level).number(p.KeepAlive).quote(p.Client).mark("clean", p.Clean)
		if p.HasWill {
			l = l.word("will").message(p.Will)
		}
		if p.HasUser {
			l = l.word("user").quote(p.User)
		}
		if p.HasPass {
			l = l.word("pass").quote(string(p.Pass))
		}
	case api.Connack:
		l = l.number(p.Code).mark("present", p.Present)
	case api.Publish:
		l = l.message(p.Msg).mark("dup", p.Dup)
		if p.ID != 0 {
			l = l.word("id").number(p.ID)
		}
	case api.Puback, api.Pubrec, api.Pubrel, api.Pubcomp, api.Unsuback:
		l = l.number(p.ID)
	case api.Subscribe:
		l = l.number(p.ID).asks(p.Asks)
	case api.Suback:
		l = l.number(p.ID)
		for _, n := range p.Codes {
			l = l.number(n)
		}
	case api.Unsubscribe:
		l = l.number(p.ID).texts(p.Filters)
	}
	return l
}

// thingsOf tells what stands in a step's line, by the tables of P20.5.
func thingsOf(s api.Step) things {
	var l things
	switch s.Kind {
	case api.StepEvent:
		switch e := s.Event; e.Kind {
		case api.Open:
			return l.word("open").number(e.Conn)
		case api.Close:
			return l.word("close").number(e.Conn)
		case api.Bytes:
			return l.word("bytes").number(e.Conn).quote(string(e.Data))
		}
		return l.word("tick")
	case api.StepPacket:
		return l.word("send").number(s.Conn).packet(s.Packet)
	case api.StepMove:
		m := s.Move
		l = l.word([]string{"", "up", "cut", "fade", "leave", "publish", "subscribe", "unsubscribe", "in", "out", "second", "reboot", "rest"}[m.Kind])
		switch m.Kind {
		case api.MoveTick, api.MoveReboot, api.MoveRest:
			return l
		case api.MovePublish:
			return l.number(m.Client).message(m.Msg)
		case api.MoveSubscribe:
			return l.number(m.Client).asks(m.Asks)
		case api.MoveUnsubscribe:
			return l.number(m.Client).texts(m.Filters)
		case api.MoveIn, api.MoveOut:
			return l.number(m.Client).number(m.N)
		}
		return l.number(m.Client)
	case api.StepShow:
		return l.word("show")
	}
	return l.word("got").number(s.Client)
}

// quote tells a quoted text in the one form of P20.8.
func quote(s string) string {
	var b strings.Builder
	b.WriteByte('"')
	for _, c := range []byte(s) {
		switch {
		case c == '"' || c == '\\':
			b.WriteString(`\` + string(rune(c)))
		case c < 0x20 || c > 0x7e:
			fmt.Fprintf(&b, `\x%02x`, c)
		default:
			b.WriteByte(c)
		}
	}
	return b.String() + `"`
}

// line tells what stands in a line in the one form of P20.8.
func (l things) line() string {
	var b []string
	for _, x := range l {
		if x.quoted {
			b = append(b, quote(x.text))
		} else {
			b = append(b, x.text)
		}
	}
	return strings.Join(b, " ")
}

// textOf tells the text of steps.
func textOf(l []api.Step) string {
	var b strings.Builder
	for _, s := range l {
		b.WriteString(thingsOf(s).line() + "\n")
	}
	return b.String()
}

// loose tells the same line in another form.
func (l things) loose(r *rand.Rand) string {
	b := blanks(r, 0)
	for i, x := range l {
		if i > 0 {
			least := 1
			if x.quoted || l[i-1].quoted {
				least = 0
			}
			b += blanks(r, least)
		}
		if x.quoted {
			b += looseQuote(r, x.text)
		} else {
			b += x.text
		}
	}
	b += blanks(r, 0)
	if r.Intn(4) == 0 {
		b += remark(r)
	}
	return b
}

func blanks(r *rand.Rand, least int) string {
	b := ""
	for n := least + max(0, r.Intn(5)-2); n > 0; n-- {
		b += someOf(r, " ", "\t")
	}
	return b
}

func remark(r *rand.Rand) string {
	return "#" + someOf(r, "", " x", "#", "\"", " open 1", "\\\r\xFF\x00\t")
}

// looseQuote tells a quoted text in some form: each byte may stand by its number.
func looseQuote(r *rand.Rand, s string) string {
	b := `"`
	for i := range len(s) {
		one := quote(s[i : i+1])
		if r.Intn(5) == 0 {
			b += fmt.Sprintf(`\x%02x`, s[i])
		} else {
			b += one[1 : len(one)-1]
		}
	}
	return b + `"`
}

func someOf[T any](r *rand.Rand, l ...T) T { return l[r.Intn(len(l))] }

func someText(r *rand.Rand) string {
	b := ""
	for range someOf(r, 0, 1, 1, 2, 3, 8) {
		b += someOf(r, "a", "b", "/", "+", "#", " ", "\t", "\n", "\r", `"`, `\`, `\x`, "\x00", "\x1f", "~", "\x7f", "\x80", "\xFF", "é", "1", "retain")
	}
	return b
}

func someNumber(r *rand.Rand) int {
	return someOf(r, 0, 1, 2, 9, 10, 65535, 65536, -1, -10, 1<<40, -1<<40, 1<<40-1, r.Intn(1<<40))
}

func someMark(r *rand.Rand) bool { return r.Intn(2) == 0 }

func someMessage(r *rand.Rand) api.Message {
	return api.Message{Topic: someText(r), Payload: []byte(someText(r)), QoS: someNumber(r), Retain: someMark(r)}
}

func someAsks(r *rand.Rand) []api.Ask {
	var l []api.Ask
	for range r.Intn(4) {
		l = append(l, api.Ask{Filter: someText(r), QoS: someNumber(r)})
	}
	return l
}

func someTexts(r *rand.Rand) []string {
	var l []string
	for range r.Intn(4) {
		l = append(l, someText(r))
	}
	return l
}

func somePacket(r *rand.Rand) api.Packet {
	p := api.Packet{Kind: 1 + r.Intn(14)}
	switch p.Kind {
	case api.Connect:
		p.Level, p.KeepAlive, p.Client, p.Clean = someNumber(r), someNumber(r), someText(r), someMark(r)
		if p.HasWill = someMark(r); p.HasWill {
			p.Will = someMessage(r)
		}
		if p.HasUser = someMark(r); p.HasUser {
			p.User = someText(r)
		}
		if p.HasPass = someMark(r); p.HasPass {
			p.Pass = []byte(someText(r))
		}
	case api.Connack:
		p.Code, p.Present = someNumber(r), someMark(r)
	case api.Publish:
		p.Msg, p.Dup, p.ID = someMessage(r), someMark(r), someNumber(r)
	case api.Puback, api.Pubrec, api.Pubrel, api.Pubcomp, api.Unsuback:
		p.ID = someNumber(r)
	case api.Subscribe:
		p.ID, p.Asks = someNumber(r), someAsks(r)
	case api.Suback:
		p.ID = someNumber(r)
		for range r.Intn(4) {
			p.Codes = append(p.Codes, someNumber(r))
		}
	case api.Unsubscribe:
		p.ID, p.Filters = someNumber(r), someTexts(r)
	}
	return p
}

func someStep(r *rand.Rand) api.Step {
	s := api.Step{Kind: someOf(r, api.StepEvent, api.StepPacket, api.StepPacket, api.StepMove, api.StepMove, api.StepShow, api.StepGot)}
	switch s.Kind {
	case api.StepEvent:
		s.Event.Kind = 1 + r.Intn(4)
		if s.Event.Kind != api.Tick {
			s.Event.Conn = someNumber(r)
		}
		if s.Event.Kind == api.Bytes {
			s.Event.Data = []byte(someText(r))
		}
	case api.StepPacket:
		s.Conn, s.Packet = someNumber(r), somePacket(r)
	case api.StepMove:
		m := &s.Move
		if m.Kind = 1 + r.Intn(12); m.Kind <= api.MoveOut {
			m.Client = someNumber(r)
		}
		switch m.Kind {
		case api.MovePublish:
			m.Msg = someMessage(r)
		case api.MoveSubscribe:
			m.Asks = someAsks(r)
		case api.MoveUnsubscribe:
			m.Filters = someTexts(r)
		case api.MoveIn, api.MoveOut:
			m.N = someNumber(r)
		}
	case api.StepGot:
		s.Client = someNumber(r)
	}
	return s
}

func someSteps(r *rand.Rand, n int) []api.Step {
	var l []api.Step
	for range n {
		l = append(l, someStep(r))
	}
	return l
}
