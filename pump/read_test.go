package pump_test

import (
	"math"
	"math/rand"
	"strings"
	"testing"

	"crier/api"
	"crier/packet"
	"crier/pump"
)

// TestReadExamples: doc/19-pump.md's, and no piece at all.
func TestReadExamples(t *testing.T) {
	hi := encoded(t, hello("a"))
	pieces := [][]byte{[]byte(hi + "\xC0\x00"), []byte(hi[:7]), {0}}
	for _, n := range crews() {
		got := pump.Read(100, pieces, n)
		if len(got) != 3 || len(got[0]) != 2 || len(got[1]) != 0 || len(got[2]) != 1 {
			t.Fatalf("P19.2: %d workers: %+v", n, got)
		}
		first, second, third := got[0][0], got[0][1], got[2][0]
		if first.What != api.InPacket || first.Code != 0 || first.Err != api.OK || !packet.Same(first.Packet, hello("a")) {
			t.Errorf("P19.2: %d workers: %+v", n, first)
		}
		if second.What != api.InPacket || !packet.Same(second.Packet, kind(api.Pingreq, 0)) {
			t.Errorf("P19.2: %d workers: %+v", n, second)
		}
		if third.What != api.InEnd || third.Err != api.ErrCodecKind || third.Code != 0 || !packet.Same(third.Packet, api.Packet{}) {
			t.Errorf("P19.2: %d workers: %+v", n, third)
		}
		for _, none := range [][][]byte{nil, {}} {
			if l := pump.Read(100, none, n); len(l) != 0 {
				t.Errorf("P19.2: %d workers, no pieces: %+v", n, l)
			}
		}
		for _, one := range [][]byte{nil, {}, {0x10}} {
			if l := pump.Read(100, [][]byte{one}, n); len(l) != 1 || len(l[0]) != 0 {
				t.Errorf("P19.2: %d workers, a piece of nothing whole: %+v", n, l)
			}
		}
	}
}

// pieces tells bytes of all kinds.
func pieces(t *testing.T) [][]byte {
	old := hello("a")
	old.Level = 3
	will := msg("w", "will", 2)
	will.Retain = true
	hi := encoded(t, willed(alive(hello("a"), 7), will))
	l := []string{
		"", "\x10", "\x40\x02", "\x40\x03", "\x40\x04", hi, hi[:len(hi)-1], encoded(t, old), encoded(t, old, kind(api.Pingreq, 0)),
		hi + encoded(t, kind(api.Disconnect, 0)), hi + encoded(t, kind(api.Disconnect, 0), kind(api.Pingreq, 0)) + "\xFF",
		hi + hi, hi + encoded(t, kind(api.Pingresp, 0), kind(api.Pingreq, 0)), "\xC0\x00" + hi, "\x00", "\xF0", "\xFF" + hi,
		hi + encoded(t, publish(msg("t", "x", 0), 0), publish(msg("t", "y", 1), 5), publish(msg("t", strings.Repeat("z", 300), 2), 6), kind(api.Pubrel, 6), subscribe(1, ask("a/#", 2), ask("+", 0)), api.Packet{Kind: api.Unsubscribe, ID: 2, Filters: []string{"a/#", "+"}}) + "\x30",
		hi + "\xC0\x80\x00\xC0\x80\x80\x00\xC0\x80\x80\x80\x00\xC0\x80\x80\x80\x80\x00",
		hi + strings.Repeat("\xC0\x00", 1000), hi + "\x30\x03\x00\x01#", hi + "\x82\x02\x00\x01",
	}
	all := make([][]byte, 0, len(l))
	for _, s := range l {
		all = append(all, []byte(s))
	}
	return all
}

// TestRead: as conns do, by any number of workers, with any bound of a packet's length (P19.2, P19.3).
func TestRead(t *testing.T) {
	l := pieces(t)
	for _, most := range []int{math.MinInt, -1, 0, 1, 2, 3, 4, 20, 30, 31, 100, 1000, api.MaxLength, math.MaxInt} {
		reads(t, most, l, crews()...)
	}
}

// TestReadAlone: a piece's answer doesn't hang on the others: alone, twice, in any order, behind any (P19.4).
func TestReadAlone(t *testing.T) {
	r := rand.New(rand.NewSource(191))
	l := pieces(t)
	for _, b := range l {
		one := pump.Read(1000, [][]byte{b}, 3)
		if len(one) != 1 || !sameInputs(one[0], inputsOf(1000, b)) {
			t.Fatalf("P19.4: %X alone: %+v", b, one)
		}
		for _, o := range l {
			two := pump.Read(1000, [][]byte{o, b, b}, 2)
			if !sameInputs(two[1], one[0]) || !sameInputs(two[2], one[0]) {
				t.Fatalf("P19.4: %X behind %X: %+v; want %+v", b, o, two[1:], one[0])
			}
		}
	}
	for range 300 {
		some := make([][]byte, r.Intn(60))
		for i := range some {
			some[i] = l[r.Intn(len(l))]
		}
		reads(t, 1000, some, r.Intn(11))
	}
}

// TestReadMany: far more pieces than workers, long ones among short ones.
func TestReadMany(t *testing.T) {
	l := pieces(t)
	var all [][]byte
	for i := range 3000 {
		all = append(all, l[i*7%len(l)])
	}
	long := encoded(t, hello("a"), publish(msg("t", strings.Repeat("long", 1<<18), 1), 1)) + strings.Repeat("\xC0\x00", 20000)
	all[0], all[1500], all[2999] = []byte(long), []byte(long), []byte(long)
	reads(t, api.MaxLength, all, 1, 2, 8)
}

// TestReadAnyBytes: any bytes at all.
func TestReadAnyBytes(t *testing.T) {
	r := rand.New(rand.NewSource(192))
	l := pieces(t)
	for range 300 {
		some := make([][]byte, r.Intn(20))
		for i := range some {
			b := append([]byte(nil), l[r.Intn(len(l))]...)
			for range r.Intn(4) {
				if len(b) > 0 {
					b[r.Intn(len(b))] = byte(r.Intn(256))
				}
			}
			some[i] = b
		}
		reads(t, someOf(r, -5, 2, 40, 1000), some, r.Intn(11)-1)
	}
}
