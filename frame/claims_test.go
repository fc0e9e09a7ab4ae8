package frame_test

import (
	"fmt"
	"math/rand"
	"runtime"
	"strings"
	"testing"

	"crier/api"
	"crier/frame"
)

// P4.1 to P4.3: any calls in any order, held against the plain frame.
func TestAgainstThePlainFrame(t *testing.T) {
	r := rand.New(rand.NewSource(43))
	dead := 0
	for range 4000 {
		most := pick(r, -1, 2, 3, 30, 200, 1000, api.MaxLength, 1<<40)
		f, m := frame.New(most), plain{most: most}
		in := ""
		for range r.Intn(60) {
			switch r.Intn(5) {
			case 0, 1:
				if in == "" {
					in = someInput(t, r)
				}
				k := pick(r, 0, min(1, len(in)), r.Intn(len(in)+1), len(in))
				put(f, in[:k])
				m.put(in[:k])
				in = in[k:]
			default:
				if got, want := next(t, f), m.next(); !sameAnswer(got, want) {
					t.Fatalf("P4.2: most %d, of %X: %s; want %s", most, m.all, got, want)
				}
			}
			if got, want := f.Held(), m.held(); got != want {
				t.Fatalf("P4.3: most %d, of %X: Held %d; want %d", most, m.all, got, want)
			}
		}
		if m.fault.Err != api.OK {
			dead++
		}
	}
	if dead < 500 || dead > 3500 {
		t.Errorf("%d of 4000 frames died", dead)
	}
}

// P4.4: every cut of a packet's bytes into two and three Puts, with and without Next between them.
func TestEveryCut(t *testing.T) {
	r := rand.New(rand.NewSource(44))
	for range 60 {
		all := ""
		for len(all) < 10 {
			all += encoded(t, somePacket(r))
		}
		all = all[:min(len(all), 40)] + pick(r, "", "\xF0", "\xC0", "\xC0\x00")
		want, held := wantedOf(all, 100)
		for i := range len(all) + 1 {
			for j := i; j <= len(all); j++ {
				for ask := range 4 {
					f := frame.New(100)
					var got []answer
					for k, s := range []string{all[:i], all[i:j], all[j:]} {
						put(f, s)
						if k < 2 && ask>>k&1 == 1 {
							got = packetsAhead(got, allOf(t, f))
						}
					}
					got = append(got, lastOf(got, allOf(t, f))...)
					wantAnswers(t, fmt.Sprintf("P4.4: of %X cut at %d and %d", all, i, j), got, want)
					wantHeld(t, "P4.4", f, held)
				}
			}
		}
	}
}

// packetsAhead lays what was answered behind what was answered before; that more was needed in between is no answer.
func packetsAhead(ahead, l []answer) []answer {
	if sameAnswer(l[len(l)-1], more) {
		l = l[:len(l)-1]
	}
	return append(ahead, lastOf(ahead, l)...)
}

// lastOf tells what is new in l: an error that was told before stays.
func lastOf(ahead, l []answer) []answer {
	if len(ahead) > 0 && ahead[len(ahead)-1].fault.Err != api.OK {
		return nil
	}
	return l
}

// P4.4: long inputs, right and wrong ones, cut into any pieces, empty ones too, and asked wherever.
func TestNoCutShows(t *testing.T) {
	r := rand.New(rand.NewSource(45))
	for range 1000 {
		all := ""
		for range 1 + r.Intn(4) {
			all += someInput(t, r)
		}
		most := pick(r, 2, 30, 200, 1000)
		want, held := wantedOf(all, most)
		for range 6 {
			f := frame.New(most)
			size, ask := pick(r, 1, 2, 5, 50, 2000), r.Intn(4)
			var got []answer
			for rest := all; rest != ""; {
				k := min(r.Intn(size+1), len(rest))
				put(f, rest[:k])
				rest = rest[k:]
				if r.Intn(4) < ask {
					got = packetsAhead(got, allOf(t, f))
				}
				if r.Intn(4) < ask {
					got = packetsAhead(got, []answer{next(t, f)})
				}
			}
			got = append(got, lastOf(got, allOf(t, f))...)
			wantAnswers(t, "P4.4", got, want)
			wantHeld(t, "P4.4", f, held)
		}
	}
}

// P4.4: Next asked once here and there, so that some packets are taken while others still lie there.
func TestNextHereAndThere(t *testing.T) {
	r := rand.New(rand.NewSource(46))
	for range 500 {
		var want, got []answer
		f := frame.New(1000)
		gone, ever := 0, 0
		for range 60 {
			p := somePacket(r)
			b := encoded(t, p)
			ever += len(b)
			want = append(want, taken(p))
			put(f, b[:1])
			put(f, b[1:])
			if r.Intn(2) == 0 {
				a := next(t, f)
				got = append(got, a)
				gone += len(encoded(t, a.p))
			}
			wantHeld(t, "P4.3", f, ever-gone)
		}
		put(f, "\xF0")
		wantAnswers(t, "P4.4", append(got, allOf(t, f)...), append(want, wrong(ever, api.ErrCodecKind)))
	}
}

// P4.5: most + 4 bytes are held where the length takes four bytes and all but the last byte is there; more never.
func TestHeldAtMost(t *testing.T) {
	for _, most := range []int{2, 3, 127, 128, 20000} {
		body := ("\x00\x01t" + strings.Repeat("p", most))[:most]
		b := "\x30" + string([]byte{byte(most&127 | 128), byte(most>>7&127 | 128), byte(most>>14 | 128), 0}) + body
		f := frame.New(most)
		put(f, b[:len(b)-1])
		wantNext(t, "P4.5", f, more)
		wantHeld(t, "P4.5", f, most+4)
		put(f, b[len(b)-1:])
		if a := next(t, f); sameAnswer(a, more) {
			t.Errorf("P4.5: of %d bytes, most %d, more is needed", len(b), most)
		}
	}
	r := rand.New(rand.NewSource(47))
	for range 20000 {
		most := 2 + r.Intn(60)
		f := frame.New(most)
		for range 4 {
			put(f, someInput(t, r))
			for next(t, f).ok {
			}
			if f.Held() > most+4 {
				t.Fatalf("P4.5: %d held, most %d", f.Held(), most)
			}
		}
	}
}

// P4.6: packets one behind the other, most being the greatest of their lengths.
func TestPacketsInTheirOrder(t *testing.T) {
	r := rand.New(rand.NewSource(48))
	for range 1000 {
		var want []answer
		all, most := "", 2
		for range r.Intn(50) {
			p := somePacket(r)
			b := encoded(t, p)
			want = append(want, taken(p))
			all += b
			most = max(most, packetLength(b))
		}
		f := frame.New(most)
		put(f, all)
		wantAnswers(t, "P4.6", allOf(t, f), append(want, more))
		wantHeld(t, "P4.6", f, 0)
	}
}

// packetLength: how many bytes follow a packet's length.
func packetLength(b string) int {
	for i := 1; ; i++ {
		if b[i] < 128 {
			return len(b) - 1 - i
		}
	}
}

// P4.6: a million packets in one Put, and one long packet byte by byte: neither is moved again and again.
func TestMuch(t *testing.T) {
	const many = 1000000
	f := frame.New(2)
	put(f, strings.Repeat("\xC0\x00", many)+"\x40")
	for i := range many {
		if _, ok, err := f.Next(); !ok || err != nil || f.Held() != 2*(many-1-i)+1 {
			t.Fatalf("P4.6: packet %d: %v, %v, %d held", i, ok, err, f.Held())
		}
	}
	wantNext(t, "P4.2", f, more)

	b := publish(t, 3000000)
	f = frame.New(3000000)
	for i := range len(b) - 1 {
		f.Put([]byte{b[i]})
		if _, ok, err := f.Next(); ok || err != nil || f.Held() != i+1 {
			t.Fatalf("P4.2: behind %d bytes: %v, %v, %d held", i+1, ok, err, f.Held())
		}
	}
	put(f, b[len(b)-1:]+"\xF0")
	if a := next(t, f); len(a.p.Msg.Payload) != 3000000-3 {
		t.Errorf("P4.4: %d bytes", len(a.p.Msg.Payload))
	}
	wantNext(t, "P4.2", f, wrong(len(b), api.ErrCodecKind))
}

// heap: how many bytes are in use.
func heap() int {
	runtime.GC()
	var m runtime.MemStats
	runtime.ReadMemStats(&m)
	return int(m.HeapAlloc)
}

// Nothing is kept that isn't needed still: not what is done with, not what a dead frame held.
func TestLittleIsKept(t *testing.T) {
	const much = 16000000
	for _, ends := range []struct{ ahead, behind string }{{"", ""}, {"", "\xC0"}, {"", "\xC0\x00\xC0"}, {"", "\xF0"}, {"\xF0", ""}, {"\xC0\x00\x00", "\xC0"}} {
		before := heap()
		f := frame.New(much)
		put(f, ends.ahead)
		put(f, publish(t, much))
		put(f, ends.behind)
		allOf(t, f)
		if kept := heap() - before; kept > much/4 {
			t.Errorf("%d bytes are kept of %X, a packet and %X, %d held", kept, ends.ahead, ends.behind, f.Held())
		}
		runtime.KeepAlive(f)
	}
}
