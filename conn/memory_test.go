package conn_test

import (
	"math/rand"
	"runtime"
	"strings"
	"testing"

	"crier/api"
	"crier/conn"
)

// spoil writes over all lists of an answer, and over their spare room.
func spoil(in api.Input) {
	p := in.Packet
	for _, b := range [][]byte{p.Msg.Payload, p.Will.Payload, p.Pass} {
		overwrite(b)
	}
	fill(p.Asks, api.Ask{Filter: "spoilt", QoS: 9})
	fill(p.Codes, 9)
	fill(p.Filters, "spoilt")
}

func fill[T any](l []T, with T) {
	l = l[:cap(l)]
	for i := range l {
		l[i] = with
	}
}

// TestPushed: what is pushed is neither changed nor kept, nor is the room behind it.
func TestPushed(t *testing.T) {
	r := rand.New(rand.NewSource(147))
	for range 2000 {
		all := hello(t, 4, 0)
		for range r.Intn(6) {
			all += encoded(t, somePacket(r))
		}
		m := newModel(1000, 0)
		m.push(all)
		c := conn.New(1000, 0)
		room := []byte(all + "behind")
		k := r.Intn(len(all) + 1)
		c.Push(room[:k])
		c.Push(room[k:len(all)])
		if string(room) != all+"behind" {
			t.Fatal("DOC 3: Push changes what it is handed")
		}
		clear(room)
		for want, more := m.next(); more; want, more = m.next() {
			in, _ := c.Next()
			if !same(in, want) {
				t.Fatalf("DOC 3: Push keeps what it is handed: %s; want %s", told(in), told(want))
			}
			spoil(in)
		}
		wantNone(t, "P14.2", c)
		if strings.Trim(string(room), "\x00") != "" {
			t.Fatal("DOC 3: Next changes what was handed in")
		}
	}
}

// TestEarlierAnswersStay: an answer stays as it was, whatever is done with others, and whatever comes.
func TestEarlierAnswersStay(t *testing.T) {
	r := rand.New(rand.NewSource(148))
	for range 200 {
		c := conn.New(1000, 0)
		var l []api.Input
		var was []string
		for range 3 {
			push(c, someBytes(t, r))
			for _, in := range drained(c) {
				l, was = append(l, in), append(was, told(in))
			}
		}
		for i := range l {
			for j := i; j < len(l); j++ {
				if got := told(l[j]); got != was[j] {
					t.Fatalf("DOC 3: answer %d was %s, is %s", j, was[j], got)
				}
			}
			spoil(l[i])
		}
	}
}

// TestToldByTook: what Took is told is neither changed nor kept.
func TestToldByTook(t *testing.T) {
	for _, x := range allInputs() {
		c := conn.New(100, 5)
		before := told(x.in)
		c.Took(x.in)
		if got := told(x.in); got != before {
			t.Errorf("DOC 3: Took makes %s of %s", got, before)
		}
	}
}

// rough: by how many bytes what held tells may be wrong.
const rough = 1 << 20

// held tells how many bytes the program has, garbage aside.
func held() int {
	var s runtime.MemStats
	runtime.GC()
	runtime.GC()
	runtime.ReadMemStats(&s)
	return int(s.HeapAlloc)
}

// small holds that a conn keeps nothing to speak of.
func small(t *testing.T, why string, before int, c *conn.Conn) {
	t.Helper()
	if n := held() - before; n > rough {
		t.Errorf("LANGUAGE 8: %s: %d bytes are kept", why, n)
	}
	runtime.KeepAlive(c)
}

// TestOverKeepsNothing: of a conn that is over no byte is kept, however it came to be so, and none that comes later.
func TestOverKeepsNothing(t *testing.T) {
	const much = 8 << 20
	// Half a packet, behind what the way brings or ahead of it.
	half := "\x30\xFF\xFF\xFF\x7F" + strings.Repeat("h", much)
	for name, way := range ways(t) {
		before := held()
		c := conn.New(api.MaxLength, 0)
		way(c)
		push(c, half)
		small(t, name+", then bytes", before, c)
	}
	for _, end := range []string{"\xE0\x00", "\xD0\x00", "\xF0", hello(t, 4, 0)} {
		before := held()
		c := conn.New(api.MaxLength, 0)
		push(c, hello(t, 4, 0)+end+half)
		drained(c)
		wantOver(t, "P14.2", c, true)
		small(t, "bytes behind the end", before, c)
	}
	before := held()
	c := conn.New(api.MaxLength, 0)
	push(c, half)
	if n := held() - before; n < much {
		t.Fatalf("P14.1: of %d bytes %d are held", much, n)
	}
	c.Stop()
	small(t, "bytes ahead of a Stop", before, c)
	runtime.KeepAlive(half)
}

// TestTakenKeepsNothing: of packets that were told nothing is kept, nor of those that Took is told.
func TestTakenKeepsNothing(t *testing.T) {
	before := held()
	c := conn.New(api.MaxLength, 0)
	long := strings.Repeat("n", api.MaxText)
	for range 40 {
		p := connect(4, 9)
		p.Client, p.HasPass, p.HasUser, p.Pass = strings.Clone(long), true, true, []byte(long)
		c.Took(taken(p))
	}
	c.Took(taken(api.Packet{Kind: api.Publish, Msg: api.Message{Topic: "t", Payload: make([]byte, 8<<20)}}))
	small(t, "what Took is told", before, c)
	push(c, encoded(t, api.Packet{Kind: api.Publish, Msg: api.Message{Topic: "t", Payload: make([]byte, 8<<20)}})+"\xC0")
	drained(c)
	small(t, "what was told", before, c)
	wantOver(t, "P14.2", c, false)
}
