package codec_test

import (
	"fmt"
	"math/rand"
	"strings"

	"crier/api"
	"crier/packet"
	"crier/wire"
)

// told: a packet as a short text.
func told(p api.Packet) string { return fmt.Sprintf("%.300s", fmt.Sprintf("%+v", p)) }

func pick[T any](r *rand.Rand, l ...T) T { return l[r.Intn(len(l))] }

func coin(r *rand.Rand) bool { return r.Intn(2) == 0 }

func someBytes(r *rand.Rand, n int) []byte {
	b := make([]byte, n, n+8)
	r.Read(b)
	return b
}

func someMessage(r *rand.Rand) api.Message {
	topic := pick(r, "a", "a/b", "/", "é", "$a", "\U0010FFFF/\uFFFD", strings.Repeat("long/", r.Intn(60))+"x")
	return api.Message{Topic: topic, Payload: someBytes(r, pick(r, 0, 1, 2, 120+r.Intn(20), r.Intn(300))), QoS: r.Intn(3), Retain: coin(r)}
}

var someFilters = []string{"a", "+", "#", "a/+/b", "a/#", "/", "é/+", "$a/#"}

// somePacket: a right packet.
func somePacket(r *rand.Rand) api.Packet {
	p := api.Packet{Kind: 1 + r.Intn(14)}
	switch p.Kind {
	case api.Connect:
		p.Level, p.Clean, p.KeepAlive, p.Client = pick(r, 0, 3, 4, 4, 5, 255), coin(r), pick(r, 0, 60, 256, 65535), pick(r, "", "c", "é", strings.Repeat("c", 120))
		if p.HasWill = coin(r); p.HasWill {
			p.Will = someMessage(r)
		}
		if p.HasUser = coin(r); p.HasUser {
			p.User = pick(r, "", "u", "üser")
			if p.HasPass = coin(r); p.HasPass {
				p.Pass = someBytes(r, r.Intn(4))
			}
		}
	case api.Connack:
		p.Code = pick(r, 0, 1, 5, 255)
		p.Present = p.Code == 0 && coin(r)
	case api.Publish:
		p.Msg = someMessage(r)
		p.Dup = p.Msg.QoS > 0 && coin(r)
	case api.Subscribe:
		for range 1 + r.Intn(4) {
			p.Asks = append(p.Asks, api.Ask{Filter: pick(r, someFilters...), QoS: r.Intn(3)})
		}
	case api.Suback:
		for range 1 + r.Intn(4) {
			p.Codes = append(p.Codes, pick(r, 0, 1, 2, 128))
		}
	case api.Unsubscribe:
		for range 1 + r.Intn(4) {
			p.Filters = append(p.Filters, pick(r, someFilters...))
		}
	}
	if numbered(p) {
		p.ID = pick(r, 1, 2, 255, 256, 258, 65535)
	}
	return p
}

// numbered: whether a packet has an ID.
func numbered(p api.Packet) bool {
	switch p.Kind {
	case api.Connect, api.Connack, api.Pingreq, api.Pingresp, api.Disconnect:
		return false
	case api.Publish:
		return p.Msg.QoS > 0
	}
	return true
}

// number, text and length: the forms of DOC.md, as strings.
func number(n int) string { return string([]byte{byte(n / 256), byte(n % 256)}) }

func text(s string) string { return number(len(s)) + s }

// length: a length in just so many bytes.
func length(n, size int) string {
	b := make([]byte, size)
	for i := range b {
		b[i] = byte(n % 128)
		if i < size-1 {
			b[i] += 128
		}
		n /= 128
	}
	return string(b)
}

// shortest: how many bytes a length has at least.
func shortest(n int) int {
	switch {
	case n < 128:
		return 1
	case n < 128*128:
		return 2
	case n < 128*128*128:
		return 3
	}
	return 4
}

func sum(marks ...any) string {
	n := 0
	for i := 0; i < len(marks); i += 2 {
		if marks[i].(bool) {
			n += marks[i+1].(int)
		}
	}
	return string([]byte{byte(n)})
}

// written: a right packet's first byte, and all that stands behind its length, by DOC.md's table.
func written(p api.Packet) (byte, string) {
	flags, s := 0, ""
	if numbered(p) {
		s = number(p.ID)
	}
	switch p.Kind {
	case api.Connect:
		w := p.Will
		s = "\x00\x04MQTT" + string([]byte{byte(p.Level)}) +
			sum(p.HasUser, 128, p.HasPass, 64, w.Retain, 32, w.QoS == 2, 16, w.QoS == 1, 8, p.HasWill, 4, p.Clean, 2) +
			number(p.KeepAlive) + text(p.Client)
		if p.HasWill {
			s += text(w.Topic) + text(string(w.Payload))
		}
		if p.HasUser {
			s += text(p.User)
		}
		if p.HasPass {
			s += text(string(p.Pass))
		}
	case api.Connack:
		s = sum(p.Present, 1) + string([]byte{byte(p.Code)})
	case api.Publish:
		flags = int(sum(p.Dup, 8, p.Msg.QoS == 2, 4, p.Msg.QoS == 1, 2, p.Msg.Retain, 1)[0])
		s = text(p.Msg.Topic) + s + string(p.Msg.Payload)
	case api.Pubrel, api.Subscribe, api.Unsubscribe:
		flags = 2
	}
	for _, a := range p.Asks {
		s += text(a.Filter) + string([]byte{byte(a.QoS)})
	}
	for _, c := range p.Codes {
		s += string([]byte{byte(c)})
	}
	for _, f := range p.Filters {
		s += text(f)
	}
	return byte(16*p.Kind + flags), s
}

// encoded: a right packet's bytes.
func encoded(p api.Packet) string {
	first, s := written(p)
	return string([]byte{first}) + length(len(s), shortest(len(s))) + s
}

// firstBytes: those that may be, one by one.
const firstBytes = "\x10\x20\x30\x31\x32\x33\x34\x35\x3A\x3B\x3C\x3D\x40\x50\x62\x70\x82\x90\xA2\xB0\xC0\xD0\xE0"

// answer: what Decode answers; all of it is zero, if more is needed.
type answer struct {
	p     api.Packet
	n     int
	fault api.Fault
}

func wrong(at int, e api.Errno) answer { return answer{fault: api.Fault{At: at, Err: e}} }

func (a answer) String() string {
	return fmt.Sprintf("%d bytes, error %d at %d, %s", a.n, a.fault.Err, a.fault.At, told(a.p))
}

func sameAnswer(a, b answer) bool {
	return a.n == b.n && a.fault == b.fault && packet.Same(a.p, b.p)
}

// wanted: what P3.2 and P3.3 ask of Decode, step by step.
func wanted(b string, most int) answer {
	most = min(max(most, 2), 268435455)
	if b == "" {
		return answer{}
	}
	kind := int(b[0]) / 16
	if kind == 0 || kind == 15 {
		return wrong(0, api.ErrCodecKind)
	}
	if !strings.Contains(firstBytes, b[:1]) {
		return wrong(0, api.ErrCodecFlags)
	}
	size := 0
	for i := 1; i < min(len(b), 5) && size == 0; i++ {
		if b[i] < 128 {
			size = i
		}
	}
	switch {
	case size == 0 && len(b) >= 5:
		return wrong(4, api.ErrWireForm)
	case size == 0:
		return answer{}
	}
	n := 0
	for i := size; i > 0; i-- {
		n = 128*n + int(b[i])%128
	}
	switch {
	case n > most:
		return wrong(1, api.ErrCodecLong)
	case len(b) < 1+size+n:
		return answer{}
	}
	p, f := wantFields(b[:1+size+n], 1+size)
	if f.Err == api.OK {
		f = api.Fault{Err: packet.Check(p)}
	}
	if f.Err != api.OK {
		return answer{fault: f}
	}
	return answer{p: p, n: 1 + size + n}
}

// taker: it takes fields from the left, and panics with a fault at the first that goes wrong.
type taker struct {
	b  string
	at int
}

func (t *taker) take(n int) string {
	if n > len(t.b)-t.at {
		panic(api.Fault{At: len(t.b), Err: api.ErrWireShort})
	}
	t.at += n
	return t.b[t.at-n : t.at]
}

func (t *taker) number(size int) int {
	n := 0
	for _, c := range []byte(t.take(size)) {
		n = 256*n + int(c)
	}
	return n
}

func (t *taker) data() string { return t.take(t.number(2)) }

func (t *taker) text() string {
	s := t.data()
	if at, e := wire.Check(s); e != api.OK {
		panic(api.Fault{At: t.at - len(s) + at, Err: e})
	}
	return s
}

func (t *taker) refuse(is bool, at int, e api.Errno) {
	if is {
		panic(api.Fault{At: at, Err: e})
	}
}

// wantFields: a packet as its fields tell it, or the first fault.
func wantFields(b string, head int) (p api.Packet, f api.Fault) {
	defer func() {
		if x := recover(); x != nil {
			f = x.(api.Fault)
		}
	}()
	t := &taker{b, head}
	p.Kind = int(b[0]) / 16
	flags := int(b[0]) % 16
	switch p.Kind {
	case 1:
		t.connect(&p)
	case 2:
		present := t.number(1)
		t.refuse(present > 1, head, api.ErrCodecMarks)
		p.Present, p.Code = present == 1, t.number(1)
	case 3:
		p.Dup, p.Msg.QoS, p.Msg.Retain = flags >= 8, flags/2%4, flags%2 == 1
		p.Msg.Topic = t.text()
		if p.Msg.QoS != 0 {
			p.ID = t.number(2)
		}
		p.Msg.Payload = []byte(t.take(len(b) - t.at))
	case 4, 5, 6, 7, 8, 9, 10, 11:
		p.ID = t.number(2)
	}
	for t.at < len(b) {
		switch p.Kind {
		case 8:
			p.Asks = append(p.Asks, api.Ask{Filter: t.text(), QoS: t.number(1)})
		case 9:
			p.Codes = append(p.Codes, t.number(1))
		case 10:
			p.Filters = append(p.Filters, t.text())
		default:
			t.refuse(true, t.at, api.ErrWireRest)
		}
	}
	return p, f
}

func (t *taker) connect(p *api.Packet) {
	at := t.at
	t.refuse(t.text() != "MQTT", at, api.ErrCodecName)
	p.Level = t.number(1)
	at = t.at
	marks := t.number(1)
	t.refuse(marks%2 == 1 || marks/8%4 == 3, at, api.ErrCodecMarks)
	p.HasUser, p.HasPass, p.Will.Retain = marks >= 128, marks/64%2 == 1, marks/32%2 == 1
	p.Will.QoS, p.HasWill, p.Clean = marks/8%4, marks/4%2 == 1, marks/2%2 == 1
	p.KeepAlive, p.Client = t.number(2), t.text()
	if p.HasWill {
		p.Will.Topic = t.text()
		p.Will.Payload = []byte(t.data())
	}
	if p.HasUser {
		p.User = t.text()
	}
	if p.HasPass {
		p.Pass = []byte(t.data())
	}
}
