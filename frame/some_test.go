package frame_test

import (
	"fmt"
	"math/rand"
	"strings"
	"testing"

	"crier/api"
	"crier/codec"
	"crier/frame"
	"crier/packet"
)

func pick[T any](r *rand.Rand, l ...T) T { return l[r.Intn(len(l))] }

func coin(r *rand.Rand) bool { return r.Intn(2) == 0 }

func someBytes(r *rand.Rand, n int) []byte {
	b := make([]byte, n)
	r.Read(b)
	return b
}

func someMessage(r *rand.Rand) api.Message {
	topic := pick(r, "a", "a/b", "/", "é", "$a", strings.Repeat("long/", r.Intn(40))+"x")
	return api.Message{Topic: topic, Payload: someBytes(r, pick(r, 0, 1, 2, 120+r.Intn(20), r.Intn(300))), QoS: r.Intn(3), Retain: coin(r)}
}

var someFilters = []string{"a", "+", "#", "a/+/b", "a/#", "/", "é/+", "$a/#"}

// somePacket: a right packet.
func somePacket(r *rand.Rand) api.Packet {
	p := api.Packet{Kind: 1 + r.Intn(14)}
	switch p.Kind {
	case api.Connect:
		p.Level, p.Clean, p.KeepAlive, p.Client = pick(r, 3, 4), coin(r), pick(r, 0, 60, 65535), pick(r, "", "c", "é")
		if p.HasWill = coin(r); p.HasWill {
			p.Will = someMessage(r)
		}
	case api.Connack:
		p.Code = pick(r, 0, 1, 5)
	case api.Publish:
		p.Msg = someMessage(r)
		if p.Msg.QoS > 0 {
			p.ID, p.Dup = 1+r.Intn(65535), coin(r)
		}
	case api.Pingreq, api.Pingresp, api.Disconnect:
	default:
		p.ID = 1 + r.Intn(65535)
	}
	for range 1 + r.Intn(4) {
		switch p.Kind {
		case api.Subscribe:
			p.Asks = append(p.Asks, api.Ask{Filter: pick(r, someFilters...), QoS: r.Intn(3)})
		case api.Suback:
			p.Codes = append(p.Codes, pick(r, 0, 1, 2, 128))
		case api.Unsubscribe:
			p.Filters = append(p.Filters, pick(r, someFilters...))
		}
	}
	return p
}

// encoded: a right packet's bytes.
func encoded(t *testing.T, p api.Packet) string {
	t.Helper()
	b, e := codec.Encode(p)
	if e != api.OK {
		t.Fatalf("P3.1: Encode of %+v: %d", p, e)
	}
	return string(b)
}

// publish: a Publish whose length is n.
func publish(t *testing.T, n int) string {
	t.Helper()
	return encoded(t, api.Packet{Kind: api.Publish, Msg: api.Message{Topic: "t", Payload: make([]byte, n-3)}})
}

// someInput: bytes as a connection may bring them: packets, some of them in longer forms or bent, perhaps cut off.
func someInput(t *testing.T, r *rand.Rand) string {
	all := ""
	for range r.Intn(8) {
		switch b := encoded(t, somePacket(r)); r.Intn(24) {
		case 0:
			bent := []byte(b)
			bent[r.Intn(len(bent))] = byte(r.Intn(256))
			all += string(bent)
		case 1:
			all += string(someBytes(r, r.Intn(5)))
		case 2, 3:
			all += "\xC0\x80\x80\x00"
		default:
			all += b
		}
	}
	if coin(r) {
		return all[:r.Intn(len(all)+1)]
	}
	return all
}

// answer: what Next answers.
type answer struct {
	p     api.Packet
	ok    bool
	fault api.Fault
}

// more: what Next answers, if more is needed.
var more answer

func taken(p api.Packet) answer { return answer{p: p, ok: true} }

func wrong(at int, e api.Errno) answer { return answer{fault: api.Fault{At: at, Err: e}} }

func (a answer) String() string {
	return fmt.Sprintf("%v, error %d at %d, %.200s", a.ok, a.fault.Err, a.fault.At, fmt.Sprintf("%+v", a.p))
}

func sameAnswer(a, b answer) bool {
	return a.ok == b.ok && a.fault == b.fault && packet.Same(a.p, b.p)
}

// next: what Next answers, its error being nil or a *api.Fault.
func next(t *testing.T, f *frame.Frame) answer {
	t.Helper()
	p, ok, err := f.Next()
	a := answer{p: p, ok: ok}
	if err == nil {
		return a
	}
	x, isFault := err.(*api.Fault)
	if !isFault || x == nil || x.Err == api.OK {
		t.Fatalf("P4.2: the error %T %v", err, err)
	}
	a.fault = *x
	return a
}

func wantNext(t *testing.T, what string, f *frame.Frame, want answer) {
	t.Helper()
	if got := next(t, f); !sameAnswer(got, want) {
		t.Errorf("%s: Next: %s; want %s", what, got, want)
	}
}

func wantHeld(t *testing.T, what string, f *frame.Frame, want int) {
	t.Helper()
	if got := f.Held(); got != want {
		t.Errorf("%s: Held: %d; want %d", what, got, want)
	}
}

// put lays a text's bytes, and spoils the list that it handed in behind that.
func put(f *frame.Frame, s string) {
	b := append(make([]byte, 0, len(s)+4), s...)
	f.Put(b)
	for i := range b[:cap(b)] {
		b[:cap(b)][i] = 0xF0
	}
}

// plain: a frame as P4.1 to P4.3 tell it: all bytes that ever came, and how many of them are done with.
type plain struct {
	most  int
	all   string
	at    int
	fault api.Fault
}

func (m *plain) put(s string) {
	if m.fault.Err == api.OK {
		m.all += s
	}
}

func (m *plain) next() answer {
	if m.fault.Err != api.OK {
		return answer{fault: m.fault}
	}
	p, n, err := codec.Decode([]byte(m.all[m.at:]), m.most)
	if err != nil {
		m.fault = *err.(*api.Fault)
		m.fault.At += m.at
		return answer{fault: m.fault}
	}
	m.at += n
	return answer{p: p, ok: n > 0}
}

func (m *plain) held() int {
	if m.fault.Err != api.OK {
		return 0
	}
	return len(m.all) - m.at
}

// allOf: what Next answers, one behind the other, till it answers no packet; the last one is more or an error.
func allOf(t *testing.T, f *frame.Frame) []answer {
	t.Helper()
	var l []answer
	for {
		a := next(t, f)
		l = append(l, a)
		if !a.ok {
			return l
		}
	}
}

// wantedOf: allOf of all bytes at once, by the plain frame; and Held behind that.
func wantedOf(b string, most int) ([]answer, int) {
	m := plain{most: most, all: b}
	var l []answer
	for {
		a := m.next()
		l = append(l, a)
		if !a.ok {
			return l, m.held()
		}
	}
}

func wantAnswers(t *testing.T, what string, got, want []answer) {
	t.Helper()
	for i := range max(len(got), len(want)) {
		if i >= len(got) || i >= len(want) || !sameAnswer(got[i], want[i]) {
			t.Fatalf("%s: answer %d of %d: %v; want of %d: %v", what, i, len(got), got[min(i, len(got)):], len(want), want[min(i, len(want)):])
		}
	}
}
