package frame_test

import (
	"errors"
	"math"
	"math/rand"
	"strings"
	"testing"

	"crier/api"
	"crier/frame"
)

func ack(id int) answer { return taken(api.Packet{Kind: api.Puback, ID: id}) }

var ping = taken(api.Packet{Kind: api.Pingreq})

// P4.1, P4.2, P4.3: the chapter's example.
func TestExample(t *testing.T) {
	f := frame.New(100)
	put(f, "\xC0")
	wantNext(t, "P4.2", f, more)
	wantHeld(t, "P4.3", f, 1)
	put(f, "\x00\xC0\x00\xE0")
	wantNext(t, "P4.2", f, ping)
	wantHeld(t, "P4.3", f, 3)
	wantNext(t, "P4.2", f, ping)
	wantNext(t, "P4.2", f, more)
	wantHeld(t, "P4.3", f, 1)
	put(f, "\x01\x07")
	wantNext(t, "P4.2", f, wrong(6, api.ErrWireRest))
	wantHeld(t, "P4.3", f, 0)
	put(f, "\xC0\x00")
	wantHeld(t, "P4.3", f, 0)
	wantNext(t, "P4.2", f, wrong(6, api.ErrWireRest))
}

// P4.1, P4.3: no bytes at all, and Puts of none, whatever most is.
func TestNoBytes(t *testing.T) {
	for _, most := range []int{math.MinInt, -1, 0, 1, 2, 100, api.MaxLength, api.MaxLength + 1, math.MaxInt} {
		f := frame.New(most)
		wantHeld(t, "P4.1", f, 0)
		for _, b := range [][]byte{nil, {}, make([]byte, 0, 8)} {
			wantNext(t, "P4.2", f, more)
			f.Put(b)
			wantHeld(t, "P4.1", f, 0)
		}
		wantNext(t, "P4.2", f, more)
		put(f, "\xC0\x00")
		wantNext(t, "P4.2", f, ping)
		wantNext(t, "P4.2", f, more)
		wantHeld(t, "P4.3", f, 0)
	}
}

// P4.1: what is put lies behind what is held, byte by byte; Held counts all of it till Next is asked.
func TestHeldBeforeNext(t *testing.T) {
	f := frame.New(2)
	for i := range 100 {
		put(f, "\xFF")
		wantHeld(t, "P4.3", f, i+1)
		f.Put(nil)
		wantHeld(t, "P4.3", f, i+1)
	}
	wantNext(t, "P4.2", f, wrong(0, api.ErrCodecKind))
	wantHeld(t, "P4.3", f, 0)
}

// P4.2: asked again where more is needed, nothing has changed.
func TestAskedAgain(t *testing.T) {
	b := encoded(t, api.Packet{Kind: api.Publish, Msg: api.Message{Topic: "a/b", Payload: []byte("hi"), QoS: 1}, ID: 10})
	f := frame.New(9)
	for i := range b {
		for range 3 {
			wantNext(t, "P4.2", f, more)
			wantHeld(t, "P4.3", f, i)
		}
		put(f, b[i:i+1])
	}
	wantNext(t, "P4.2", f, taken(api.Packet{Kind: api.Publish, Msg: api.Message{Topic: "a/b", Payload: []byte("hi"), QoS: 1}, ID: 10}))
	wantHeld(t, "P4.3", f, 0)
	for range 3 {
		wantNext(t, "P4.2", f, more)
	}
}

// P4.1: most below 2 counts as 2, one above MaxLength as it; a length at most is taken, one above it isn't.
func TestMost(t *testing.T) {
	for _, most := range []int{math.MinInt, -1, 0, 1, 2} {
		f := frame.New(most)
		put(f, "\x40\x02\x00\x09\x40\x03")
		wantNext(t, "P4.1", f, ack(9))
		wantNext(t, "P4.1", f, wrong(5, api.ErrCodecLong))
	}
	for _, n := range []int{3, 4, 127, 128, 16383, 16384, 2097151, 2097152} {
		b := publish(t, n)
		for _, most := range []int{n, n + 1, api.MaxLength, api.MaxLength + 1, math.MaxInt} {
			f := frame.New(most)
			put(f, b)
			if a := next(t, f); !a.ok || len(a.p.Msg.Payload) != n-3 {
				t.Errorf("P4.1: a Publish of length %d, most %d: error %d", n, most, a.fault.Err)
			}
			wantHeld(t, "P4.3", f, 0)
		}
		f := frame.New(n - 1)
		put(f, b)
		wantNext(t, "P4.1", f, wrong(1, api.ErrCodecLong))
	}
	for _, most := range []int{api.MaxLength, api.MaxLength + 1, math.MaxInt} {
		f := frame.New(most)
		put(f, "\x30\xFF\xFF\xFF\x7F")
		wantNext(t, "P4.1", f, more)
		wantHeld(t, "P4.3", f, 5)
	}
	f := frame.New(api.MaxLength - 1)
	put(f, "\x30\xFF\xFF\xFF\x7F")
	wantNext(t, "P4.1", f, wrong(1, api.ErrCodecLong))
}

// faults: bytes that are wrong, and what is told of them where they begin the frame.
var faults = []struct {
	b  string
	at int
	e  api.Errno
}{
	{"\x00", 0, api.ErrCodecKind}, {"\xF0", 0, api.ErrCodecKind}, {"\xC1", 0, api.ErrCodecFlags}, {"\x36", 0, api.ErrCodecFlags},
	{"\x30\x80\x80\x80\x80", 4, api.ErrWireForm}, {"\x30\x65", 1, api.ErrCodecLong}, {"\x30\xE5\x00", 1, api.ErrCodecLong},
	{"\x40\x03\x00\x0A\x00", 4, api.ErrWireRest}, {"\x40\x01\x00", 3, api.ErrWireShort}, {"\xE0\x01\x07", 2, api.ErrWireRest},
	{"\x10\x02\x00\x00", 2, api.ErrCodecName}, {"\x20\x02\x02\x00", 2, api.ErrCodecMarks},
	{"\x30\x04\x00\x02a\x00", 5, api.ErrWireZero}, {"\x30\x84\x80\x00\x00\x02\xFFa", 6, api.ErrWireUTF},
	{"\x40\x02\x00\x00", 0, api.ErrPacketID}, {"\x30\x03\x00\x01#", 0, api.ErrPacketTopic}, {"\x82\x02\x00\x01", 0, api.ErrPacketEmpty},
}

// P4.2: an error in the first packet, and behind others, with each number of bytes that more come; its place is among all bytes ever put.
func TestFaults(t *testing.T) {
	for _, c := range faults {
		for _, ahead := range []int{0, 1, 2, 3, 10, 100, 1000} {
			for _, behind := range []string{"", "\x00", "\xC0\x00", strings.Repeat("\xC0\x00", 200)} {
				f := frame.New(100)
				put(f, strings.Repeat("\x40\x02\x01\x02", ahead)+c.b+behind)
				for i := range ahead {
					wantNext(t, "P4.2", f, ack(258))
					wantHeld(t, "P4.3", f, 4*(ahead-1-i)+len(c.b)+len(behind))
				}
				wantDead(t, f, wrong(4*ahead+c.at, c.e))
			}
		}
	}
}

// wantDead: Next answers a, and the frame is dead then.
func wantDead(t *testing.T, f *frame.Frame, a answer) {
	t.Helper()
	wantNext(t, "P4.2", f, a)
	for _, b := range []string{"", "\xC0\x00", "\xF0", a.String(), "\xC0\x00"} {
		wantHeld(t, "P4.2", f, 0)
		wantNext(t, "P4.2", f, a)
		put(f, b)
		put(f, b)
		wantHeld(t, "P4.2", f, 0)
		wantNext(t, "P4.2", f, a)
		wantNext(t, "P4.2", f, a)
	}
}

// P4.2: the place counts all bytes that were taken one by one, too.
func TestPlaceBehindManyPuts(t *testing.T) {
	for _, c := range faults {
		f := frame.New(100)
		for range 300 {
			for _, s := range []string{"", "\x40", "\x02\x01", "", "\x02"} {
				put(f, s)
			}
			wantNext(t, "P4.2", f, ack(258))
		}
		for i := range c.b {
			wantNext(t, "P4.2", f, more)
			put(f, c.b[i:i+1])
		}
		wantDead(t, f, wrong(1200+c.at, c.e))
	}
}

// P4.2: an error is told as soon as it is sure, not sooner; errors.Is and errors.As work with it.
func TestErrorsAsTheyAre(t *testing.T) {
	for _, c := range faults {
		f := frame.New(100)
		put(f, "\xC0\x00"+c.b[:len(c.b)-1])
		wantNext(t, "P4.2", f, ping)
		wantNext(t, "P4.2", f, more)
		wantHeld(t, "P4.3", f, len(c.b)-1)
		put(f, c.b[len(c.b)-1:])
		_, _, err := f.Next()
		var x *api.Fault
		if !errors.Is(err, c.e) || !errors.As(err, &x) || x.At != 2+c.at || x.Err != c.e {
			t.Errorf("P4.2: of %X: %v", c.b, err)
		}
	}
}

// Rule 3: no two errors of a dead frame are one, and what is done to one changes no other.
func TestErrorsAreNew(t *testing.T) {
	f := frame.New(100)
	put(f, "\xC0\x00\xF0")
	wantNext(t, "P4.2", f, ping)
	for range 3 {
		_, _, err := f.Next()
		x := err.(*api.Fault)
		if *x != (api.Fault{At: 2, Err: api.ErrCodecKind}) {
			t.Errorf("P4.2: %v", x)
		}
		*x = api.Fault{}
	}
}

// Rule 3: what is put is neither changed nor kept, nor is the room behind it; what is answered is the caller's alone.
func TestMemory(t *testing.T) {
	r := rand.New(rand.NewSource(41))
	for range 2000 {
		var want []api.Packet
		all := ""
		for range 1 + r.Intn(6) {
			p := somePacket(r)
			want = append(want, p)
			all += encoded(t, p)
		}
		f := frame.New(1000)
		room := []byte(all + "\x01\x02\x03\x04")
		f.Put(room[:len(all)])
		if string(room) != all+"\x01\x02\x03\x04" {
			t.Fatal("rule 3: Put changed what was handed in")
		}
		clear(room)
		for _, p := range want {
			a := next(t, f)
			if !sameAnswer(a, taken(p)) {
				t.Fatalf("rule 3: %s; want %+v", a, p)
			}
			spoil(a.p)
		}
		wantNext(t, "P4.2", f, more)
		if string(room) != strings.Repeat("\x00", len(room)) {
			t.Fatal("rule 3: Next changed what was handed in")
		}
	}
}

// spoil writes over all lists of a packet, and over the room behind them.
func spoil(p api.Packet) {
	for _, b := range [][]byte{p.Msg.Payload, p.Will.Payload, p.Pass} {
		for i := range b[:cap(b)] {
			b[:cap(b)][i] = 0xF0
		}
	}
	clear(p.Asks[:cap(p.Asks)])
	clear(p.Codes[:cap(p.Codes)])
	clear(p.Filters[:cap(p.Filters)])
}

// P4.2: answers stay as they were, whatever is put and taken later.
func TestEarlierAnswersStay(t *testing.T) {
	r := rand.New(rand.NewSource(42))
	f := frame.New(1000)
	var got, want []answer
	for range 2000 {
		p := somePacket(r)
		want = append(want, taken(p))
		put(f, encoded(t, p))
		if r.Intn(3) == 0 {
			l := allOf(t, f)
			got = append(got, l[:len(l)-1]...)
		}
	}
	l := allOf(t, f)
	wantAnswers(t, "rule 3", append(got, l[:len(l)-1]...), want)
}

// Two frames beside one another don't touch: one goes on when the other one is dead, and each has its own most and places.
func TestTwoFrames(t *testing.T) {
	f, g := frame.New(2), frame.New(100)
	b := []byte("\x40\x02\x00\x09\x40\x03\x00")
	f.Put(b)
	g.Put(b)
	put(g, "\x0A\x00")
	wantNext(t, "P4.1", f, ack(9))
	wantHeld(t, "P4.3", f, 3)
	wantHeld(t, "P4.3", g, 9)
	wantNext(t, "P4.1", f, wrong(5, api.ErrCodecLong))
	wantNext(t, "P4.1", g, ack(9))
	wantHeld(t, "P4.3", g, 5)
	wantNext(t, "P4.1", g, wrong(8, api.ErrWireRest))
	wantNext(t, "P4.1", f, wrong(5, api.ErrCodecLong))
	h := frame.New(2)
	put(h, "\xC0\x00")
	wantNext(t, "P4.1", h, ping)
}
