package codec_test

import (
	"errors"
	"fmt"
	"math"
	"math/rand"
	"strings"
	"testing"

	"crier/api"
	"crier/codec"
	"crier/packet"
)

// decoded: what Decode answers, its error being nil or a *api.Fault.
func decoded(t *testing.T, b string, most int) answer {
	t.Helper()
	p, n, err := codec.Decode([]byte(b), most)
	a := answer{p: p, n: n}
	if err == nil {
		return a
	}
	f, ok := err.(*api.Fault)
	if !ok || f == nil || f.Err == api.OK {
		t.Fatalf("P3.2: Decode of %.50X: the error %T %v", b, err, err)
	}
	if !errors.Is(err, f.Err) {
		t.Errorf("P3.2: %v isn't %d", err, f.Err)
	}
	a.fault = *f
	return a
}

func wantAnswer(t *testing.T, what, b string, most int, want answer) {
	t.Helper()
	if got := decoded(t, b, most); !sameAnswer(got, want) {
		t.Errorf("%s: Decode of %.50X (%d bytes), most %d: %s; want %s", what, b, len(b), most, got, want)
	}
}

// more: what Decode answers, if more is needed.
var more answer

func ping(n int) answer { return answer{p: api.Packet{Kind: api.Pingreq}, n: n} }

// P3.2, P3.3: the chapter's examples.
func TestDecodeExamples(t *testing.T) {
	for _, c := range []struct {
		b    string
		want answer
	}{
		{"\xC0", more}, {"\xC0\x00\xC0", ping(2)}, {"\xC0\x80\x00", ping(3)},
		{"\xC1", wrong(0, api.ErrCodecFlags)}, {"\xF0", wrong(0, api.ErrCodecKind)}, {"\x36", wrong(0, api.ErrCodecFlags)}, {"\x38", wrong(0, api.ErrCodecFlags)},
		{"\x30\x80\x80\x80\x80", wrong(4, api.ErrWireForm)}, {"\x30\x65", wrong(1, api.ErrCodecLong)},
		{"\x40\x03\x00\x0A\x00", wrong(4, api.ErrWireRest)}, {"\x40\x03\x00\x0A", more}, {"\x40\x01\x00", wrong(3, api.ErrWireShort)},
		{"\xC0\x01\x00", wrong(2, api.ErrWireRest)}, {"\x10\x02\x00\x00", wrong(2, api.ErrCodecName)},
	} {
		wantAnswer(t, "P3.2", c.b, 100, c.want)
	}
}

// P3.2: nothing at all, as nil and as an empty list.
func TestDecodeOfNothing(t *testing.T) {
	for _, b := range [][]byte{nil, {}} {
		for _, most := range []int{math.MinInt, 0, 2, api.MaxLength, math.MaxInt} {
			if p, n, err := codec.Decode(b, most); n != 0 || err != nil || !packet.Same(p, api.Packet{}) {
				t.Errorf("P3.2: Decode of nothing: %s, %d, %v", told(p), n, err)
			}
		}
	}
}

// P3.2, step 1: every first byte, alone and with whatever behind it.
func TestFirstBytes(t *testing.T) {
	for c := range 256 {
		first := string([]byte{byte(c)})
		want := more
		switch {
		case c < 16 || c >= 240:
			want = wrong(0, api.ErrCodecKind)
		case !strings.Contains(firstBytes, first):
			want = wrong(0, api.ErrCodecFlags)
		}
		for _, most := range []int{-1, 2, 100, api.MaxLength} {
			wantAnswer(t, "P3.2", first, most, want)
		}
		if sameAnswer(want, more) {
			continue
		}
		// A fault of the first byte is ahead of all that could be wrong behind it.
		for _, behind := range []string{"\x00", "\x80", "\x7F", "\x80\x80\x80\x80", "\xFF\xFF\xFF\x7F", "\x02\x00\x01"} {
			wantAnswer(t, "P3.2", first+behind, 2, want)
		}
	}
}

// P3.2, step 2: lengths in one to four bytes, in each form that is long enough, and each beginning of them.
func TestFormsOfLengths(t *testing.T) {
	for _, n := range []int{0, 1, 2, 3, 126, 127, 128, 129, 16383, 16384, 2097151, 2097152} {
		for size := shortest(n); size <= 4; size++ {
			head := "\x90" + length(n, size)
			for k := 1; k < len(head); k++ {
				wantAnswer(t, "P3.2", head[:k], 2, more)
			}
			body := ("\x00\x01" + strings.Repeat("\x80", n))[:n]
			if n > 0 {
				wantAnswer(t, "P3.2", head+body[1:], n, more)
			}
			want := answer{n: size + 1 + n}
			switch {
			case n < 2:
				want = wrong(len(head)+n, api.ErrWireShort)
			case n == 2:
				want = wrong(0, api.ErrPacketEmpty)
			default:
				want.p = api.Packet{Kind: api.Suback, ID: 1, Codes: make([]int, n-2)}
				for i := range want.p.Codes {
					want.p.Codes[i] = 128
				}
			}
			wantAnswer(t, "P3.2", head+body, n, want)
			wantAnswer(t, "P3.2", head+body+"\x90", n, want)
		}
	}
}

// P3.2, step 2: four bytes that all say that another follows, whatever comes then, and whatever may be.
func TestNoLength(t *testing.T) {
	for _, most := range []int{math.MinInt, 2, 1000, api.MaxLength, math.MaxInt} {
		for _, four := range []string{"\x80\x80\x80\x80", "\xFF\xFF\xFF\xFF", "\x80\x80\x80\x81", "\xFF\x80\x80\x80"} {
			for k := range 4 {
				wantAnswer(t, "P3.2", "\x30"+four[:k], most, more)
			}
			for _, behind := range []string{"", "\x00", "\x80", "\x01\x02"} {
				wantAnswer(t, "P3.2", "\x30"+four+behind, most, wrong(4, api.ErrWireForm))
			}
		}
	}
}

// P3.2, step 2: what a length may be at most: at it, one below it, and beyond the bounds of most.
func TestMost(t *testing.T) {
	for _, n := range []int{0, 1, 2, 3, 4, 100, 127, 128, 16383, 16384, 2097151, 2097152, api.MaxLength - 1, api.MaxLength} {
		for size := shortest(n); size <= 4; size++ {
			b := "\x40" + length(n, size)
			for _, most := range []int{math.MinInt, -1, 0, 1, 2, 3, 4, n - 1, n, n + 1, api.MaxLength - 1, api.MaxLength, api.MaxLength + 1, math.MaxInt} {
				want := more
				switch {
				case n > max(most, 2):
					want = wrong(1, api.ErrCodecLong)
				case n == 0:
					want = wrong(len(b), api.ErrWireShort)
				}
				wantAnswer(t, "P3.2", b, most, want)
				// It is told at the length's last byte: not sooner, and not later.
				for k := range b {
					wantAnswer(t, "P3.2", b[:k], most, more)
				}
				if n > max(most, 2) {
					wantAnswer(t, "P3.2", b+"\x00\x01\x00\x00\x00", most, want)
				}
			}
		}
	}
	wantAnswer(t, "P3.2", "\x40\x02\x00\x07", -9, answer{p: api.Packet{Kind: api.Puback, ID: 7}, n: 4})
	wantAnswer(t, "P3.2", "\x40\x03\x00\x07\x00", 1, wrong(1, api.ErrCodecLong))
}

// bare: the bytes of a kind with these fields.
func bare(first byte, fields string) string {
	return string([]byte{first}) + length(len(fields), shortest(len(fields))) + fields
}

// P3.3: each place of a fault, of each kind. All rows have a length of one byte, so the fields begin at 2.
func TestFaultsOfFields(t *testing.T) {
	const name = "\x00\x04MQTT"
	for _, c := range []struct {
		first  byte
		fields string
		at     int
		e      api.Errno
	}{
		// A Connect: the protocol's name.
		{0x10, "", 2, api.ErrWireShort}, {0x10, "\x00", 3, api.ErrWireShort}, {0x10, "\x00\x04MQT", 7, api.ErrWireShort}, {0x10, "\x00\x05MQTT", 8, api.ErrWireShort},
		{0x10, "\x00\x04MQ\x00T", 6, api.ErrWireZero}, {0x10, "\x00\x04\xFFQTT", 4, api.ErrWireUTF}, {0x10, "\x00\x00", 2, api.ErrCodecName},
		{0x10, "\x00\x04MQTX", 2, api.ErrCodecName}, {0x10, "\x00\x03MQT", 2, api.ErrCodecName}, {0x10, "\x00\x05MQTTT", 2, api.ErrCodecName}, {0x10, "\x00\x04mqtt", 2, api.ErrCodecName},
		{0x10, "\x00\x06MQIsdp\x03\x02\x00\x3C\x00\x01c", 2, api.ErrCodecName}, {0x10, "\x00\x04MQTX\x04\x01", 2, api.ErrCodecName},
		// Its Level and its marks.
		{0x10, name, 8, api.ErrWireShort}, {0x10, name + "\x04", 9, api.ErrWireShort},
		{0x10, name + "\x04\x01", 9, api.ErrCodecMarks}, {0x10, name + "\x04\x03\x00\x00\x00\x00", 9, api.ErrCodecMarks}, {0x10, name + "\x04\x18", 9, api.ErrCodecMarks}, {0x10, name + "\x04\x1C", 9, api.ErrCodecMarks},
		{0x10, name + "\x04\xFE", 9, api.ErrCodecMarks}, {0x10, name + "\x04\xFF", 9, api.ErrCodecMarks}, {0x10, name + "\x05\x01", 9, api.ErrCodecMarks}, {0x10, name + "\x04\x81\x00\x00\x00\x01\xFF", 9, api.ErrCodecMarks},
		// Its keep-alive and its client.
		{0x10, name + "\x04\x02", 10, api.ErrWireShort}, {0x10, name + "\x04\x02\x00", 11, api.ErrWireShort}, {0x10, name + "\x04\x02\x00\x00", 12, api.ErrWireShort},
		{0x10, name + "\x04\x02\x00\x00\x00", 13, api.ErrWireShort}, {0x10, name + "\x04\x02\x00\x00\x00\x02c", 15, api.ErrWireShort}, {0x10, name + "\x04\x02\x00\x00\x00\x02c\x00", 15, api.ErrWireZero},
		{0x10, name + "\x04\x02\x00\x00\x00\x02\xC3\xA8\xA9", 16, api.ErrWireRest}, {0x10, name + "\x04\x02\x00\x00\x00\x01\xC3\xA8", 14, api.ErrWireUTF}, {0x10, name + "\x04\x02\x00\x00\x00\x00\x00", 14, api.ErrWireRest},
		{0x10, name + "\x05\x02\x00\x00\x00\x00\x00", 14, api.ErrWireRest}, {0x10, name + "\x03\x02\x00\x00", 12, api.ErrWireShort},
		// Its will, user and word.
		{0x10, name + "\x04\x04\x00\x00\x00\x00", 14, api.ErrWireShort}, {0x10, name + "\x04\x04\x00\x00\x00\x00\x00\x01\x00", 16, api.ErrWireZero}, {0x10, name + "\x04\x04\x00\x00\x00\x00\x00\x01w", 17, api.ErrWireShort},
		{0x10, name + "\x04\x04\x00\x00\x00\x00\x00\x01w\x00\x01", 19, api.ErrWireShort}, {0x10, name + "\x04\x04\x00\x00\x00\x00\x00\x01w\x00\x00\x00", 19, api.ErrWireRest},
		{0x10, name + "\x04\x80\x00\x00\x00\x00", 14, api.ErrWireShort}, {0x10, name + "\x04\x80\x00\x00\x00\x00\x00\x01\xFF", 16, api.ErrWireUTF}, {0x10, name + "\x04\x80\x00\x00\x00\x00\x00\x00\x00", 16, api.ErrWireRest},
		{0x10, name + "\x04\xC0\x00\x00\x00\x00\x00\x00", 16, api.ErrWireShort}, {0x10, name + "\x04\xC0\x00\x00\x00\x00\x00\x00\x00\x02p", 19, api.ErrWireShort}, {0x10, name + "\x04\xC0\x00\x00\x00\x00\x00\x00\x00\x01pp", 19, api.ErrWireRest},
		{0x10, name + "\x04\x40\x00\x00\x00\x00", 14, api.ErrWireShort}, {0x10, name + "\x04\x40\x00\x00\x00\x00\x00\x00\x00", 16, api.ErrWireRest},
		// Marks whose thing isn't there, and what packet.Check says of others.
		{0x10, name + "\x04\x08\x00\x00\x00\x00", 0, api.ErrPacketField}, {0x10, name + "\x04\x10\x00\x00\x00\x00", 0, api.ErrPacketField}, {0x10, name + "\x04\x20\x00\x00\x00\x00", 0, api.ErrPacketField},
		{0x10, name + "\x04\x30\x00\x00\x00\x00", 0, api.ErrPacketField}, {0x10, name + "\x04\x08\x00\x00\x00\x00\x00", 14, api.ErrWireRest}, {0x10, name + "\x04\x40\x00\x00\x00\x00\x00\x01p", 0, api.ErrPacketMarks},
		{0x10, name + "\x04\x40\x00\x00\x00\x00\x00\x00", 0, api.ErrPacketMarks}, {0x10, name + "\x04\x44\x00\x00\x00\x00\x00\x01w\x00\x00\x00\x00", 0, api.ErrPacketMarks},
		{0x10, name + "\x04\x04\x00\x00\x00\x00\x00\x01+\x00\x00", 0, api.ErrPacketTopic}, {0x10, name + "\x04\x04\x00\x00\x00\x00\x00\x00\x00\x00", 0, api.ErrPacketTopic},
		// A Connack.
		{0x20, "", 2, api.ErrWireShort}, {0x20, "\x00", 3, api.ErrWireShort}, {0x20, "\x02", 2, api.ErrCodecMarks}, {0x20, "\xFF\x00", 2, api.ErrCodecMarks}, {0x20, "\x02\x00\x00", 2, api.ErrCodecMarks},
		{0x20, "\x01", 3, api.ErrWireShort}, {0x20, "\x00\x00\x00", 4, api.ErrWireRest}, {0x20, "\x01\x01", 0, api.ErrPacketMarks}, {0x20, "\x01\x01\x00", 4, api.ErrWireRest},
		// A Publish.
		{0x30, "", 2, api.ErrWireShort}, {0x30, "\x00", 3, api.ErrWireShort}, {0x30, "\x00\x02a", 5, api.ErrWireShort}, {0x30, "\x00\x02a\x00", 5, api.ErrWireZero}, {0x30, "\x00\x01\xFF", 4, api.ErrWireUTF},
		{0x30, "\x00\x00", 0, api.ErrPacketTopic}, {0x30, "\x00\x01#", 0, api.ErrPacketTopic}, {0x30, "\x00\x03a/+", 0, api.ErrPacketTopic},
		{0x32, "\x00\x01a", 5, api.ErrWireShort}, {0x32, "\x00\x01a\x00", 6, api.ErrWireShort}, {0x32, "\x00\x01a\x00\x00", 0, api.ErrPacketID}, {0x3D, "\x00\x01a\x00\x00p", 0, api.ErrPacketID}, {0x34, "\x00\x01+\x00\x00", 0, api.ErrPacketTopic},
		// A Subscribe.
		{0x82, "", 2, api.ErrWireShort}, {0x82, "\x00", 3, api.ErrWireShort}, {0x82, "\x00\x01", 0, api.ErrPacketEmpty}, {0x82, "\x00\x00", 0, api.ErrPacketID}, {0x82, "\x00\x01\x00", 5, api.ErrWireShort}, {0x82, "\x00\x01\x00\x01", 6, api.ErrWireShort},
		{0x82, "\x00\x01\x00\x01a", 7, api.ErrWireShort}, {0x82, "\x00\x01\x00\x01a\x00\x00", 9, api.ErrWireShort}, {0x82, "\x00\x01\x00\x01a\x00\x00\x01\x00\x01", 10, api.ErrWireZero}, {0x82, "\x00\x01\x00\x01\x80\x00", 6, api.ErrWireUTF},
		{0x82, "\x00\x01\x00\x01a\x03", 0, api.ErrPacketQoS}, {0x82, "\x00\x01\x00\x01a\x80", 0, api.ErrPacketQoS}, {0x82, "\x00\x01\x00\x02a#\x03", 0, api.ErrPacketFilter}, {0x82, "\x00\x01\x00\x00\x00", 0, api.ErrPacketFilter}, {0x82, "\x00\x00\x00\x01a\x00", 0, api.ErrPacketID},
		{0x82, "\x00\x01\x00\x01a\x03\x00\x01a", 11, api.ErrWireShort},
		// A Suback.
		{0x90, "", 2, api.ErrWireShort}, {0x90, "\x00", 3, api.ErrWireShort}, {0x90, "\x00\x01", 0, api.ErrPacketEmpty}, {0x90, "\x00\x01\x03", 0, api.ErrPacketQoS}, {0x90, "\x00\x01\x00\x81", 0, api.ErrPacketQoS}, {0x90, "\x00\x01\x7F", 0, api.ErrPacketQoS}, {0x90, "\x00\x00\x00", 0, api.ErrPacketID},
		// An Unsubscribe.
		{0xA2, "", 2, api.ErrWireShort}, {0xA2, "\x00", 3, api.ErrWireShort}, {0xA2, "\x00\x01", 0, api.ErrPacketEmpty}, {0xA2, "\x00\x01\x00", 5, api.ErrWireShort}, {0xA2, "\x00\x01\x00\x02a", 7, api.ErrWireShort},
		{0xA2, "\x00\x01\x00\x01a\x00\x02a", 10, api.ErrWireShort}, {0xA2, "\x00\x01\x00\x02a#", 0, api.ErrPacketFilter}, {0xA2, "\x00\x01\x00\x02\xC3(", 6, api.ErrWireUTF}, {0xA2, "\x00\x01\x00\x00", 0, api.ErrPacketFilter}, {0xA2, "\x00\x00\x00\x01a", 0, api.ErrPacketID},
	} {
		wantAnswer(t, "P3.3", bare(c.first, c.fields), 1000, wrong(c.at, c.e))
	}
}

// P3.3: the kinds that have an ID alone, and those that have nothing.
func TestFaultsOfShortKinds(t *testing.T) {
	for _, first := range []byte{0x40, 0x50, 0x62, 0x70, 0xB0} {
		wantAnswer(t, "P3.3", bare(first, ""), 9, wrong(2, api.ErrWireShort))
		wantAnswer(t, "P3.3", bare(first, "\x07"), 9, wrong(3, api.ErrWireShort))
		wantAnswer(t, "P3.3", bare(first, "\x00\x00"), 9, wrong(0, api.ErrPacketID))
		wantAnswer(t, "P3.3", bare(first, "\x01\x02"), 9, answer{p: api.Packet{Kind: int(first) / 16, ID: 258}, n: 4})
		wantAnswer(t, "P3.3", bare(first, "\x01\x02\x00"), 9, wrong(4, api.ErrWireRest))
		wantAnswer(t, "P3.3", bare(first, "\x00\x00\x00\x00"), 9, wrong(4, api.ErrWireRest))
	}
	for _, first := range []byte{0xC0, 0xD0, 0xE0} {
		wantAnswer(t, "P3.3", bare(first, ""), 9, answer{p: api.Packet{Kind: int(first) / 16}, n: 2})
		wantAnswer(t, "P3.3", bare(first, "\x00"), 9, wrong(2, api.ErrWireRest))
		wantAnswer(t, "P3.3", bare(first, "\x00\x01"), 9, wrong(2, api.ErrWireRest))
	}
}

// P3.3: a longer form of the length moves the places of wire's faults, and of codec's, not those of packet.Check.
func TestPlacesBehindLongerLengths(t *testing.T) {
	for size := 1; size <= 4; size++ {
		for _, c := range []struct {
			first  byte
			fields string
			at     int // behind the length; -1: at 0
			e      api.Errno
		}{
			{0x40, "\x00", 1, api.ErrWireShort}, {0x40, "\x00\x01\x00", 2, api.ErrWireRest}, {0x40, "\x00\x00", -1, api.ErrPacketID},
			{0x10, "\x00\x00", 0, api.ErrCodecName}, {0x10, "\x00\x04MQTT\x04\x01", 7, api.ErrCodecMarks}, {0x20, "\x02\x00", 0, api.ErrCodecMarks},
			{0x30, "\x00\x02a\x00", 3, api.ErrWireZero}, {0x82, "\x00\x01\x00\x01\xFF\x00", 4, api.ErrWireUTF}, {0xA2, "\x00\x01", -1, api.ErrPacketEmpty},
		} {
			b := string([]byte{c.first}) + length(len(c.fields), size) + c.fields
			at := 0
			if c.at >= 0 {
				at = 1 + size + c.at
			}
			for _, behind := range []string{"", "\x00", "\xFF\xFF"} {
				wantAnswer(t, "P3.3", b+behind, 100, wrong(at, c.e))
			}
		}
	}
}

// P3.3: what is read into the packet as it stands there.
func TestDecodeTakes(t *testing.T) {
	will := api.Message{Topic: "w", Payload: []byte{0, 255}, QoS: 2, Retain: true}
	for _, c := range []struct {
		b string
		p api.Packet
	}{
		{"\x10\x0C\x00\x04MQTT\x05\x00\x00\x00\x00\x00", api.Packet{Kind: api.Connect, Level: 5}},
		{"\x10\x0C\x00\x04MQTT\x00\x02\xFF\xFF\x00\x00", api.Packet{Kind: api.Connect, Clean: true, KeepAlive: 65535}},
		{"\x10\x1A\x00\x04MQTT\xFF\xF4\x00\x01\x00\x01x\x00\x01w\x00\x02\x00\xFF\x00\x01u\x00\x01\x00", api.Packet{Kind: api.Connect, Level: 255, KeepAlive: 1, Client: "x", HasWill: true, Will: will, HasUser: true, User: "u", HasPass: true, Pass: []byte{0}}},
		{"\x10\x11\x00\x04MQTT\x04\x0C\x00\x00\x00\x00\x00\x01w\x00\x00", api.Packet{Kind: api.Connect, Level: 4, HasWill: true, Will: api.Message{Topic: "w", QoS: 1}}},
		{"\x20\x02\x01\x00", api.Packet{Kind: api.Connack, Present: true}},
		{"\x20\x02\x00\xFF", api.Packet{Kind: api.Connack, Code: 255}},
		{"\x30\x03\x00\x01t", api.Packet{Kind: api.Publish, Msg: api.Message{Topic: "t"}}},
		{"\x31\x05\x00\x01t\x00\x01", api.Packet{Kind: api.Publish, Msg: api.Message{Topic: "t", Payload: []byte{0, 1}, Retain: true}}},
		{"\x3C\x05\x00\x01t\x00\x01", api.Packet{Kind: api.Publish, Dup: true, Msg: api.Message{Topic: "t", QoS: 2}, ID: 1}},
		{"\x3B\x06\x00\x01t\x01\x00\xFF", api.Packet{Kind: api.Publish, Dup: true, Msg: api.Message{Topic: "t", Payload: []byte{255}, QoS: 1, Retain: true}, ID: 256}},
		{"\x82\x0A\x00\x07\x00\x01a\x02\x00\x01a\x00", api.Packet{Kind: api.Subscribe, ID: 7, Asks: []api.Ask{{Filter: "a", QoS: 2}, {Filter: "a"}}}},
		{"\x90\x06\xFF\xFF\x02\x01\x00\x80", api.Packet{Kind: api.Suback, ID: 65535, Codes: []int{2, 1, 0, 128}}},
		{"\xA2\x08\x00\x07\x00\x01#\x00\x01+", api.Packet{Kind: api.Unsubscribe, ID: 7, Filters: []string{"#", "+"}}},
	} {
		for _, behind := range []string{"", "\x00", c.b, strings.Repeat("\xFF", 9)} {
			wantAnswer(t, "P3.2", c.b+behind, 100, answer{p: c.p, n: len(c.b)})
		}
		for k := range c.b {
			wantAnswer(t, "P3.2", c.b[:k], 100, more)
		}
	}
}

// someInput: bytes that begin like a packet, more or less.
func someInput(r *rand.Rand) string {
	switch r.Intn(8) {
	case 0:
		return string(someBytes(r, r.Intn(12)))
	case 1:
		few := make([]byte, r.Intn(10))
		for i := range few {
			few[i] = []byte{0, 1, 2, 3, 'a', '#', 0x80, 0xFF}[r.Intn(8)]
		}
		return bare(firstBytes[r.Intn(len(firstBytes))], string(few))
	}
	first, fields := written(somePacket(r))
	if coin(r) {
		fields = bentBytes(r, fields)
	}
	size := shortest(len(fields))
	b := string([]byte{first}) + length(len(fields), size+r.Intn(5-size)) + fields
	if r.Intn(4) == 0 {
		b = bentBytes(r, b)
	}
	return b + string(someBytes(r, pick(r, 0, 0, 1, 5)))
}

// bentBytes: bytes of which some are others, or gone, or more.
func bentBytes(r *rand.Rand, s string) string {
	b := []byte(s)
	for range 1 + r.Intn(2) {
		i := r.Intn(len(b) + 1)
		c := pick(r, 0, 1, 2, 3, 4, 8, 0x18, 0x80, '#', byte(r.Intn(256)))
		switch {
		case i == len(b) || r.Intn(5) == 0:
			b = append(b[:i:i], append([]byte{c}, b[i:]...)...)
		case r.Intn(5) == 0:
			b = append(b[:i:i], b[i+1:]...)
		case r.Intn(9) == 0:
			b = b[:i]
		default:
			b[i] = c
		}
	}
	return string(b)
}

func someMost(r *rand.Rand) int { return pick(r, -1, 2, 3, 10, 50, 127, 200, 1000, api.MaxLength) }

// P3.2, P3.3: all sorts of bytes, held against the steps that the chapter tells.
func TestDecodeOfAnything(t *testing.T) {
	r := rand.New(rand.NewSource(34))
	seen := map[string]int{}
	for range 300000 {
		b, most := someInput(r), someMost(r)
		want := wanted(b, most)
		if got := decoded(t, b, most); !sameAnswer(got, want) {
			t.Fatalf("P3.2, P3.3: Decode of %X, most %d: %s; want %s", b, most, got, want)
		}
		seen[fmt.Sprint(want.n > 0, want.p.Kind, want.fault.Err)]++
	}
	// The bytes would show nothing, if they were all refused at once: each outcome must have come about.
	for kind := 1; kind <= 14; kind++ {
		if s := fmt.Sprint(true, kind, api.OK); seen[s] == 0 {
			t.Errorf("no packet of kind %d was read", kind)
		}
	}
	for _, e := range []api.Errno{api.OK, api.ErrWireShort, api.ErrWireForm, api.ErrWireUTF, api.ErrWireZero, api.ErrWireRest,
		api.ErrPacketField, api.ErrPacketTopic, api.ErrPacketFilter, api.ErrPacketQoS, api.ErrPacketID, api.ErrPacketEmpty, api.ErrPacketMarks,
		api.ErrCodecKind, api.ErrCodecFlags, api.ErrCodecLong, api.ErrCodecName, api.ErrCodecMarks} {
		if s := fmt.Sprint(false, 0, e); seen[s] == 0 {
			t.Errorf("error %d never came about", e)
		}
	}
}

// P3.3: every byte of marks of a Connect, with all things behind it that marks can ask for.
func TestEveryByteOfMarks(t *testing.T) {
	for marks := range 256 {
		fields := "\x00\x04MQTT\x04" + string([]byte{byte(marks)}) + "\x00\x00\x00\x01c"
		if marks&4 != 0 {
			fields += "\x00\x01w\x00\x01p"
		}
		if marks&128 != 0 {
			fields += "\x00\x01u"
		}
		if marks&64 != 0 {
			fields += "\x00\x01p"
		}
		b := bare(0x10, fields)
		got := decoded(t, b, 100)
		if want := wanted(b, 100); !sameAnswer(got, want) {
			t.Errorf("P3.3: marks %X: %s; want %s", marks, got, want)
		}
		e := api.OK
		switch {
		case marks&1 != 0 || marks&0x18 == 0x18:
			e = api.ErrCodecMarks
		case marks&4 == 0 && marks&0x38 != 0:
			e = api.ErrPacketField
		case marks&0xC0 == 0x40:
			e = api.ErrPacketMarks
		}
		if got.fault.Err != e {
			t.Errorf("P3.3: marks %X: error %d; want %d", marks, got.fault.Err, e)
		}
	}
}

// P3.2, with DOC.md's rule 3: what is handed in stays as it is, and the answer is new memory, each list its own.
func TestDecodeKeepsNothing(t *testing.T) {
	r := rand.New(rand.NewSource(35))
	for range 5000 {
		b := []byte(encoded(somePacket(r)) + "\x00\x01\x02\x03")
		room := string(b)
		p, n, _ := codec.Decode(b[:len(b)-4], 1000)
		if string(b) != room {
			t.Fatalf("rule 3: Decode changed %X", room)
		}
		was := packet.Copy(p)
		fill(b, 0xAA)
		if !packet.Same(p, was) {
			t.Fatalf("rule 3: what Decode answered hangs on what was handed in: %s", told(was))
		}
		fill(p.Will.Payload, 0xBB)
		q := p
		q.Will.Payload = was.Will.Payload
		if !packet.Same(q, was) {
			t.Fatalf("rule 3: two lists of one answer share memory: %s", told(was))
		}
		fill(p.Pass, 0xCC)
		fill(p.Msg.Payload, 0xDD)
		clear(p.Asks[:cap(p.Asks)])
		clear(p.Codes[:cap(p.Codes)])
		clear(p.Filters[:cap(p.Filters)])
		again, k, err := codec.Decode([]byte(room), 1000)
		if err != nil || k != n || !packet.Same(again, was) {
			t.Fatalf("rule 3: an earlier answer of Decode shows in a later one: %s", told(was))
		}
	}
}

// P3.2, with DOC.md's rule 5: each fault is its own.
func TestFaultsAreNew(t *testing.T) {
	for _, b := range []string{"\xF0", "\xC1", "\x30\x80\x80\x80\x80", "\x30\x7F", "\x10\x02\x00\x00", "\x20\x01\x02", "\x40\x01\x00", "\x40\x02\x00\x00"} {
		_, _, first := codec.Decode([]byte(b), 9)
		was := *first.(*api.Fault)
		*first.(*api.Fault) = api.Fault{At: 99, Err: 99}
		_, _, second := codec.Decode([]byte(b), 9)
		if *second.(*api.Fault) != was {
			t.Errorf("rule 3: an earlier fault shows in a later one: %v", second)
		}
	}
}
