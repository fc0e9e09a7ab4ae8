package codec_test

import (
	"bytes"
	"math/rand"
	"strings"
	"testing"

	"crier/api"
	"crier/codec"
	"crier/packet"
)

// someEnds: what may follow a packet.
func someEnds(r *rand.Rand) []string {
	return []string{"", "\x00", "\xC0\x00", "\x80\x80\x80\x80\x80", string(someBytes(r, 1+r.Intn(30)))}
}

// P3.4, P22.1: there and back, with most at the packet's length and above it; one below it is too little.
func TestThereAndBack(t *testing.T) {
	r := rand.New(rand.NewSource(36))
	for range 20000 {
		p := somePacket(r)
		b, e := codec.Encode(p)
		if e != api.OK {
			t.Fatalf("P3.4: Encode of %s: %d", told(p), e)
		}
		n := packet.Length(p)
		for _, end := range someEnds(r) {
			for _, most := range []int{n, n + 1, api.MaxLength, 1 << 40} {
				wantAnswer(t, "P3.4, P22.1", string(b)+end, most, answer{p: p, n: len(b)})
			}
			if n > 2 {
				wantAnswer(t, "P3.2", string(b)+end, n-1, wrong(1, api.ErrCodecLong))
			}
		}
	}
}

// P3.4: lengths on both sides of each border of their forms.
func TestThereAndBackAtTheBorders(t *testing.T) {
	for _, n := range []int{3, 127, 128, 16383, 16384, 2097151, 2097152} {
		p := api.Packet{Kind: api.Publish, Msg: api.Message{Topic: "t", Payload: bytes.Repeat([]byte{0xFE}, n-3)}}
		b, _ := codec.Encode(p)
		for _, end := range []string{"", "\x80"} {
			wantAnswer(t, "P3.4", string(b)+end, n, answer{p: p, n: 1 + shortest(n) + n})
		}
		wantAnswer(t, "P3.2", string(b), max(n-1, 2), wrong(1, api.ErrCodecLong))
		wantAnswer(t, "P3.6", string(b[:len(b)-1]), n, more)
	}
}

// P3.1, P3.4, P3.7: a packet of the greatest length that may be, and one byte more.
func TestTheLongestPacket(t *testing.T) {
	payload := make([]byte, api.MaxLength-3)
	payload[0], payload[len(payload)-1] = 1, 2
	p := api.Packet{Kind: api.Publish, Msg: api.Message{Topic: "t", Payload: payload}}
	b, e := codec.Encode(p)
	if e != api.OK || len(b) != api.MaxLength+5 || codec.Size(p) != len(b) || !bytes.HasPrefix(b, []byte("\x30\xFF\xFF\xFF\x7F\x00\x01t\x01")) {
		t.Fatalf("P3.1: of a Publish of MaxLength: %d bytes, %d, Size %d", len(b), e, codec.Size(p))
	}
	q, n, err := codec.Decode(b, api.MaxLength+1)
	if err != nil || n != len(b) || !packet.Same(p, q) {
		t.Errorf("P3.4: of a Publish of MaxLength: %d, %v", n, err)
	}
	if _, n, err := codec.Decode(b[:len(b)-1], api.MaxLength); n != 0 || err != nil {
		t.Errorf("P3.6: of all but the last byte of a Publish of MaxLength: %d, %v", n, err)
	}
	if _, n, err := codec.Decode(b, api.MaxLength-1); n != 0 || err == nil || *err.(*api.Fault) != (api.Fault{At: 1, Err: api.ErrCodecLong}) {
		t.Errorf("P3.2: of a Publish of MaxLength, most one below: %d, %v", n, err)
	}
	p.Msg.Topic = "tt"
	if b, e := codec.Encode(p); len(b) != 0 || e != api.ErrPacketSize || codec.Size(p) != 0 {
		t.Errorf("P3.1: of a Publish above MaxLength: %d bytes, %d", len(b), e)
	}
}

// P3.5, P22.1: what is taken is right, is written in no more bytes, and is the same then.
func TestWhatIsTaken(t *testing.T) {
	r := rand.New(rand.NewSource(37))
	taken, shorter := 0, 0
	for range 100000 {
		b := someInput(r)
		most := someMost(r)
		p, n, err := codec.Decode([]byte(b), most)
		if n == 0 {
			if !packet.Same(p, api.Packet{}) {
				t.Fatalf("P3.2: Decode of %X: %s beside no bytes, %v", b, told(p), err)
			}
			continue
		}
		taken++
		if err != nil || packet.Check(p) != api.OK || n < 0 || n > len(b) {
			t.Fatalf("P3.5: Decode of %X: %s, %d, %v", b, told(p), n, err)
		}
		c, e := codec.Encode(p)
		if e != api.OK || len(c) > n {
			t.Fatalf("P3.5: %X was taken, and is written as %X, %d", b[:n], c, e)
		}
		if len(c) < n {
			shorter++
		}
		wantAnswer(t, "P3.5", string(c), most, answer{p: p, n: len(c)})
	}
	if taken < 10000 || shorter < 1000 {
		t.Errorf("only %d packets were taken, %d of them with a longer length", taken, shorter)
	}
}

// P3.6, P22.1: what is told once stays so, and till then more is needed, at every beginning.
func TestWhatIsToldStays(t *testing.T) {
	r := rand.New(rand.NewSource(38))
	for range 20000 {
		b, most := someInput(r), someMost(r)
		var first answer
		for k := range len(b) + 1 {
			got := decoded(t, b[:k], most)
			switch {
			case sameAnswer(first, more):
				first = got
			case !sameAnswer(got, first):
				t.Fatalf("P3.6: most %d: of %X %s; of %X %s", most, b[:k-1], first, b[:k], got)
			}
		}
		for _, end := range someEnds(r) {
			if got := decoded(t, b+end, most); !sameAnswer(first, more) && !sameAnswer(got, first) {
				t.Fatalf("P3.6: most %d: of %X %s; with %X behind it %s", most, b, first, end, got)
			}
		}
	}
}

// P3.6: every beginning of the bytes of right packets: more is needed.
func TestBeginnings(t *testing.T) {
	r := rand.New(rand.NewSource(39))
	for range 3000 {
		b := encoded(somePacket(r))
		for k := range b {
			wantAnswer(t, "P3.6", b[:k], 1000, more)
		}
	}
}

// P3.7: of most + 5 bytes more is never needed; of one byte less it may be.
func TestEnoughBytes(t *testing.T) {
	r := rand.New(rand.NewSource(40))
	for range 50000 {
		most := r.Intn(24) - 3
		n := max(most, 2) + 5
		b := someInput(r)
		b = (b + string(someBytes(r, n)))[:n]
		if got := decoded(t, b, most); sameAnswer(got, more) {
			t.Fatalf("P3.7: Decode of %X, most %d: more is needed", b, most)
		}
	}
	for _, most := range []int{2, 3, 127, 128, 20000, 2097152} {
		b := "\x30" + length(most, 4) + ("\x00\x01t" + strings.Repeat("p", most))[:most]
		if got := decoded(t, b, most); len(b) != most+5 || sameAnswer(got, more) {
			t.Errorf("P3.7: of a Publish of %d bytes: %s", len(b), got)
		}
		wantAnswer(t, "P3.7", b[:len(b)-1], most, more)
	}
}
