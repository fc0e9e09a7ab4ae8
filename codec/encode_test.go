package codec_test

import (
	"bytes"
	"math/rand"
	"reflect"
	"strings"
	"testing"

	"crier/api"
	"crier/codec"
	"crier/packet"
)

// wantEncoded holds Encode and Size of a right packet against its bytes.
func wantEncoded(t *testing.T, p api.Packet, want string) {
	t.Helper()
	b, e := codec.Encode(p)
	if e != api.OK || string(b) != want {
		t.Errorf("P3.1: Encode of %s: %.100X, %d; want %.100X", told(p), b, e, want)
	}
	if n := codec.Size(p); n != len(want) {
		t.Errorf("P3.1: Size of %s: %d; want %d", told(p), n, len(want))
	}
}

// P3.1: the chapter's examples, and each kind with bytes written by hand.
func TestEncode(t *testing.T) {
	will := api.Message{Topic: "w", Payload: []byte{0, 255}}
	full := strings.Repeat("n", 65535)
	for _, c := range []struct {
		p    api.Packet
		want string
	}{
		{api.Packet{Kind: api.Pingreq}, "\xC0\x00"},
		{api.Packet{Kind: api.Publish, Msg: api.Message{Topic: "a/b", Payload: []byte("hi"), QoS: 1}, ID: 10}, "\x32\x09\x00\x03a/b\x00\x0Ahi"},
		{api.Packet{Kind: api.Connect, Level: 4, Clean: true, KeepAlive: 60, Client: "c"}, "\x10\x0D\x00\x04MQTT\x04\x02\x00\x3C\x00\x01c"},

		{api.Packet{Kind: api.Connect}, "\x10\x0C\x00\x04MQTT\x00\x00\x00\x00\x00\x00"},
		{api.Packet{Kind: api.Connect, Level: 255, KeepAlive: 65535}, "\x10\x0C\x00\x04MQTT\xFF\x00\xFF\xFF\x00\x00"},
		{api.Packet{Kind: api.Connect, KeepAlive: 258, HasWill: true, Will: will}, "\x10\x13\x00\x04MQTT\x00\x04\x01\x02\x00\x00\x00\x01w\x00\x02\x00\xFF"},
		{api.Packet{Kind: api.Connect, HasWill: true, Will: api.Message{Topic: "w", QoS: 1}}, "\x10\x11\x00\x04MQTT\x00\x0C\x00\x00\x00\x00\x00\x01w\x00\x00"},
		{api.Packet{Kind: api.Connect, HasWill: true, Will: api.Message{Topic: "w", QoS: 2, Retain: true}}, "\x10\x11\x00\x04MQTT\x00\x34\x00\x00\x00\x00\x00\x01w\x00\x00"},
		{api.Packet{Kind: api.Connect, HasUser: true, User: "u"}, "\x10\x0F\x00\x04MQTT\x00\x80\x00\x00\x00\x00\x00\x01u"},
		{api.Packet{Kind: api.Connect, HasUser: true, HasPass: true, Pass: []byte{0}}, "\x10\x11\x00\x04MQTT\x00\xC0\x00\x00\x00\x00\x00\x00\x00\x01\x00"},
		{api.Packet{Kind: api.Connect, Level: 4, Clean: true, Client: "é", HasWill: true, Will: will, HasUser: true, User: "u", HasPass: true, Pass: []byte("p")},
			"\x10\x1B\x00\x04MQTT\x04\xC6\x00\x00\x00\x02\xC3\xA9\x00\x01w\x00\x02\x00\xFF\x00\x01u\x00\x01p"},
		{api.Packet{Kind: api.Connect, Client: full}, "\x10\x8B\x80\x04\x00\x04MQTT\x00\x00\x00\x00\xFF\xFF" + full},

		{api.Packet{Kind: api.Connack}, "\x20\x02\x00\x00"},
		{api.Packet{Kind: api.Connack, Present: true}, "\x20\x02\x01\x00"},
		{api.Packet{Kind: api.Connack, Code: 255}, "\x20\x02\x00\xFF"},

		{api.Packet{Kind: api.Publish, Msg: api.Message{Topic: "t"}}, "\x30\x03\x00\x01t"},
		{api.Packet{Kind: api.Publish, Msg: api.Message{Topic: "t", Payload: []byte{0}, Retain: true}}, "\x31\x04\x00\x01t\x00"},
		{api.Packet{Kind: api.Publish, Msg: api.Message{Topic: "t", QoS: 2}, ID: 65535}, "\x34\x05\x00\x01t\xFF\xFF"},
		{api.Packet{Kind: api.Publish, Dup: true, Msg: api.Message{Topic: "t", QoS: 2, Retain: true}, ID: 1}, "\x3D\x05\x00\x01t\x00\x01"},
		{api.Packet{Kind: api.Publish, Dup: true, Msg: api.Message{Topic: "t", QoS: 1}, ID: 256}, "\x3A\x05\x00\x01t\x01\x00"},

		{api.Packet{Kind: api.Puback, ID: 1}, "\x40\x02\x00\x01"},
		{api.Packet{Kind: api.Pubrec, ID: 258}, "\x50\x02\x01\x02"},
		{api.Packet{Kind: api.Pubrel, ID: 65535}, "\x62\x02\xFF\xFF"},
		{api.Packet{Kind: api.Pubcomp, ID: 255}, "\x70\x02\x00\xFF"},
		{api.Packet{Kind: api.Unsuback, ID: 256}, "\xB0\x02\x01\x00"},

		{api.Packet{Kind: api.Subscribe, ID: 7, Asks: []api.Ask{{Filter: "a/#", QoS: 2}, {Filter: "+"}, {Filter: "a/#", QoS: 1}}}, "\x82\x12\x00\x07\x00\x03a/#\x02\x00\x01+\x00\x00\x03a/#\x01"},
		{api.Packet{Kind: api.Suback, ID: 7, Codes: []int{2, 0, 128, 1}}, "\x90\x06\x00\x07\x02\x00\x80\x01"},
		{api.Packet{Kind: api.Unsubscribe, ID: 8, Filters: []string{"a/#", "b"}}, "\xA2\x0A\x00\x08\x00\x03a/#\x00\x01b"},

		{api.Packet{Kind: api.Pingresp}, "\xD0\x00"},
		{api.Packet{Kind: api.Disconnect}, "\xE0\x00"},
	} {
		wantEncoded(t, c.p, c.want)
	}
}

// P3.1: right packets of all kinds, by DOC.md's table.
func TestEncodeOfSome(t *testing.T) {
	r := rand.New(rand.NewSource(31))
	for range 20000 {
		p := somePacket(r)
		wantEncoded(t, p, encoded(p))
	}
}

// P3.1: a length is in its shortest form; here on both sides of each border.
func TestEncodeLengths(t *testing.T) {
	for _, c := range []struct {
		n    int
		want string
	}{
		{127, "\x7F"}, {128, "\x80\x01"}, {16383, "\xFF\x7F"}, {16384, "\x80\x80\x01"},
		{2097151, "\xFF\xFF\x7F"}, {2097152, "\x80\x80\x80\x01"},
	} {
		payload := make([]byte, c.n-3)
		wantEncoded(t, api.Packet{Kind: api.Publish, Msg: api.Message{Topic: "t", Payload: payload}}, "\x30"+c.want+"\x00\x01t"+string(payload))
		codes := make([]int, c.n-2)
		wantEncoded(t, api.Packet{Kind: api.Suback, ID: 1, Codes: codes}, "\x90"+c.want+"\x00\x01"+string(make([]byte, c.n-2)))
	}
	wantEncoded(t, api.Packet{Kind: api.Pingreq}, "\xC0\x00")
}

// P3.1: packets that aren't right, one an error.
func TestEncodeRefuses(t *testing.T) {
	for want, p := range map[api.Errno]api.Packet{
		api.ErrPacketKind:   {},
		api.ErrPacketField:  {Kind: api.Pingreq, ID: 1},
		api.ErrPacketText:   {Kind: api.Connect, Client: "\x00"},
		api.ErrPacketTopic:  {Kind: api.Publish},
		api.ErrPacketFilter: {Kind: api.Unsubscribe, ID: 1, Filters: []string{"a", "a#"}},
		api.ErrPacketQoS:    {Kind: api.Subscribe, ID: 1, Asks: []api.Ask{{Filter: "a", QoS: 3}}},
		api.ErrPacketID:     {Kind: api.Puback},
		api.ErrPacketSize:   {Kind: api.Connect, HasWill: true, Will: api.Message{Topic: "w", Payload: make([]byte, 65536)}},
		api.ErrPacketEmpty:  {Kind: api.Suback, ID: 1},
		api.ErrPacketMarks:  {Kind: api.Connack, Present: true, Code: 1},
	} {
		if b, e := codec.Encode(p); len(b) != 0 || e != want {
			t.Errorf("P3.1: Encode of %s: %X, %d; want no bytes, %d", told(p), b, e, want)
		}
		if n := codec.Size(p); n != 0 {
			t.Errorf("P3.1: Size of %s, which isn't right: %d", told(p), n)
		}
	}
}

// P3.1: right packets bent in a field or two: the error is packet.Check's.
func TestEncodeOfAnything(t *testing.T) {
	r := rand.New(rand.NewSource(32))
	refused := 0
	for range 30000 {
		p := bent(r, somePacket(r))
		want := packet.Check(p)
		b, e := codec.Encode(p)
		if e != want {
			t.Fatalf("P3.1: Encode of %s: %d; want %d", told(p), e, want)
		}
		if e == api.OK {
			wantEncoded(t, p, encoded(p))
			continue
		}
		refused++
		if len(b) != 0 || codec.Size(p) != 0 {
			t.Fatalf("P3.1: of %s, which isn't right: %X, Size %d", told(p), b, codec.Size(p))
		}
	}
	if refused < 5000 {
		t.Errorf("only %d packets were refused", refused)
	}
}

// bent: the packet with one or two of its fields made others.
func bent(r *rand.Rand, p api.Packet) api.Packet {
	v := reflect.ValueOf(&p).Elem()
	for range 1 + r.Intn(2) {
		f := v.Field(r.Intn(v.NumField()))
		f.Set(someValue(r, f.Interface()))
	}
	return p
}

func someValue(r *rand.Rand, like any) reflect.Value {
	s := pick(r, "", "a", "a/+", "+a", "#", "\x00", "\xFF")
	m := api.Message{Topic: s, QoS: r.Intn(5) - 1, Retain: coin(r)}
	switch like.(type) {
	case int:
		like = pick(r, -1, 0, 1, 2, 3, 4, 8, 14, 15, 255, 256, 65535, 65536)
	case bool:
		like = coin(r)
	case string:
		like = s
	case []byte:
		like = pick(r, nil, []byte{}, []byte{1})
	case api.Message:
		like = pick(r, api.Message{}, api.Message{Payload: []byte{}}, m)
	case []api.Ask:
		like = pick(r, nil, []api.Ask{}, []api.Ask{{Filter: "a"}, {Filter: s, QoS: m.QoS}})
	case []int:
		like = pick(r, nil, []int{}, []int{pick(r, -256, -1, 0, 1, 2, 3, 127, 128, 129, 256)})
	case []string:
		like = pick(r, nil, []string{}, []string{s}, []string{"a", s})
	}
	return reflect.ValueOf(like)
}

// P3.1: a packet of many parts; each is laid once.
func TestEncodeOfLongLists(t *testing.T) {
	const many = 1 << 18
	p := api.Packet{Kind: api.Subscribe, ID: 1}
	q := api.Packet{Kind: api.Unsubscribe, ID: 1}
	var asks, filters bytes.Buffer
	for i := range many {
		f := someFilters[i%len(someFilters)]
		p.Asks = append(p.Asks, api.Ask{Filter: f, QoS: i % 3})
		q.Filters = append(q.Filters, f)
		asks.WriteString(text(f) + string([]byte{byte(i % 3)}))
		filters.WriteString(text(f))
	}
	wantEncoded(t, p, "\x82"+length(asks.Len()+2, 3)+"\x00\x01"+asks.String())
	wantEncoded(t, q, "\xA2"+length(filters.Len()+2, 3)+"\x00\x01"+filters.String())
	for _, p := range []api.Packet{p, q} {
		b, _ := codec.Encode(p)
		wantAnswer(t, "P3.4", string(b), api.MaxLength, answer{p: p, n: len(b)})
	}
}

// P3.1, with DOC.md's rule 3: what is handed in stays as it is, and each answer is new memory.
func TestEncodeKeepsNothing(t *testing.T) {
	r := rand.New(rand.NewSource(33))
	for range 2000 {
		p := somePacket(r)
		was := packet.Copy(p)
		b, _ := codec.Encode(p)
		first := string(b)
		if !packet.Same(p, was) {
			t.Fatalf("rule 3: Encode changed %s", told(was))
		}
		fill(p.Will.Payload, 0xAA)
		fill(p.Pass, 0xAA)
		fill(p.Msg.Payload, 0xAA)
		if string(b) != first {
			t.Fatalf("rule 3: Encode's answer hangs on what was handed in: %s", told(was))
		}
		fill(b, 0xBB)
		if again, _ := codec.Encode(was); string(again) != first {
			t.Fatalf("rule 3: an earlier answer of Encode shows in a later one: %s", told(was))
		}
	}
}

// fill makes all bytes of a list one, its spare room's too.
func fill(b []byte, c byte) {
	for i := range b[:cap(b)] {
		b[:cap(b)][i] = c
	}
}
