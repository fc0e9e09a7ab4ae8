package pump_test

import (
	"bytes"
	"fmt"
	"math"
	"math/rand"
	"runtime"
	"slices"
	"strings"
	"sync/atomic"
	"testing"
	"time"

	"crier/api"
	"crier/pump"
)

// goroutines tells how many there are: all are stopped for it, as runtime.NumGoroutine's number is but rough while some begin and end.
func goroutines() int {
	n, _ := runtime.GoroutineProfile(make([]runtime.StackRecord, 1000))
	return n
}

// ended: no more goroutines are there than before, if not at once (one that has said that it ends is counted till it has), so soon.
func ended(t *testing.T, before int) {
	t.Helper()
	for i := 0; goroutines() > before && i < 500; i++ {
		time.Sleep(time.Millisecond)
	}
	if n := goroutines(); n > before {
		t.Errorf("doc/19-pump.md: %d goroutines behind a call, %d ahead", n, before)
	}
}

// most tells how many goroutines there are at most while something is done, as far as it is seen.
func most(do func()) int {
	var stop atomic.Bool
	seen := make(chan int)
	go func() {
		n := 0
		for !stop.Load() {
			n = max(n, goroutines())
			runtime.Gosched()
		}
		seen <- n
	}()
	do()
	stop.Store(true)
	return <-seen
}

// TestWorkersEnd: behind a call there are none, and while it goes on never more than were asked for, nor more than MaxWorkers.
func TestWorkersEnd(t *testing.T) {
	before := goroutines()
	l := slices.Repeat(pieces(t), 30)
	var events []api.Event
	for n := range 200 {
		events = append(events, opens(n))
	}
	for n := range 200 {
		events = append(events, data(n, encoded(t, clean(fmt.Sprint(n)), publish(msg("t", strings.Repeat("x", 5000), 0), 0))), opens(n/2))
	}
	for _, n := range crews() {
		bound := min(max(n, 1), api.MaxWorkers)
		for _, do := range []func(){
			func() { pump.Read(1000, l, n) },
			func() { pump.Read(1000, l[:3], n) },
			func() { pump.Read(1000, nil, n) },
			func() { pump.Run(wide(), events, n) },
			func() { pump.Run(wide(), nil, n) },
		} {
			if got := most(do) - before - 1; got > bound {
				t.Errorf("doc/19-pump.md: %d workers: %d at once", n, got)
			}
			ended(t, before)
		}
	}
	for range 200 {
		pump.Read(1000, l[:9], 8)
		pump.Run(wide(), events[195:220], math.MaxInt)
	}
	ended(t, before)
}

// TestWorkersHaveEnded: it isn't that they are about to: with one thread a worker that said that it ends has ended, but for the seldom time when it is held up just then.
func TestWorkersHaveEnded(t *testing.T) {
	defer runtime.GOMAXPROCS(runtime.GOMAXPROCS(1))
	before := goroutines()
	l := pieces(t)
	events := []api.Event{opens(1), opens(2), data(1, encoded(t, clean("a"))), data(2, encoded(t, clean("b"))), opens(1), data(1, "\xC0\x00")}
	for name, do := range map[string]func(){
		"Read":            func() { pump.Read(1000, l, 8) },
		"Read of nothing": func() { pump.Read(1000, nil, 8) },
		"Run":             func() { pump.Run(wide(), events, 8) },
		"Run of nothing":  func() { pump.Run(wide(), nil, 8) },
	} {
		early := 0
		for range 200 {
			do()
			if goroutines() > before {
				early++
				ended(t, before)
			}
		}
		if early > 100 {
			t.Errorf("doc/19-pump.md: %s: %d of 200 calls answered ahead of their workers' end", name, early)
		}
	}
}

// TestRunHandedIn: nothing of it is changed, nor kept, the spare room included.
func TestRunHandedIn(t *testing.T) {
	r := rand.New(rand.NewSource(196))
	for range 100 {
		x := newLife(t, r, map[string]int{})
		for range 80 {
			x.step()
		}
		c := x.c
		c.Users = append(make([]api.User, 0, 9), x.c.Users...)
		users := c.Users[:cap(c.Users)]
		all := append(make([]api.Event, 0, len(x.l)+3), x.l...)
		rooms := make([][]byte, len(all))
		for i := range all {
			rooms[i] = append(append(make([]byte, 0, len(all[i].Data)+20), all[i].Data...), "\xC0\x00 behind"...)
			all[i].Data = rooms[i][:len(all[i].Data)]
		}
		want := alone(x.c, x.l)
		usersWere, were := slices.Clone(users), make([][]byte, len(rooms))
		for i := range rooms {
			were[i] = bytes.Clone(rooms[i])
		}
		got := pump.Run(c, all, 1+r.Intn(8))
		if !slices.Equal(users, usersWere) || !slices.EqualFunc(rooms, were, bytes.Equal) {
			t.Fatal("DOC 3: Run changes bytes that it is handed")
		}
		for i, e := range all {
			if e.Kind != x.l[i].Kind || e.Conn != x.l[i].Conn || len(e.Data) != len(x.l[i].Data) {
				t.Fatal("DOC 3: Run changes events that it is handed")
			}
			fill(rooms[i], 0xF0)
		}
		for _, e := range all[len(all):cap(all)] {
			if e.Kind != 0 || e.Conn != 0 || e.Data != nil {
				t.Fatal("DOC 3: Run writes into the room behind events")
			}
		}
		fill(all, api.Event{Kind: api.Tick})
		fill(users, api.User{Name: "spoilt"})
		if !sameOuts(got, want) {
			t.Fatal("DOC 3: Run keeps what it is handed")
		}
	}
}

// TestReadHandedIn: so it is with pieces, also with those that share their bytes.
func TestReadHandedIn(t *testing.T) {
	all := bytes.Join(pieces(t), nil)
	room := append(append(make([]byte, 0, len(all)+9), all...), "behind"...)
	was := bytes.Clone(room)
	var l [][]byte
	for i := 0; i < len(all); i += 3 {
		l = append(l, room[i:min(i+40, len(all))], room[:i], room[i:len(all)])
	}
	var want [][]api.Input
	for _, b := range l {
		want = append(want, inputsOf(1000, b))
	}
	list := append(make([][]byte, 0, len(l)+2), l...)
	got := pump.Read(1000, list, 8)
	if !bytes.Equal(room, was) {
		t.Error("DOC 3: Read changes what it is handed")
	}
	for i := range l {
		if len(list[i]) != len(l[i]) || len(l[i]) > 0 && &list[i][0] != &l[i][0] {
			t.Fatal("DOC 3: Read changes the list that it is handed")
		}
	}
	for _, b := range list[len(list):cap(list)] {
		if b != nil {
			t.Fatal("DOC 3: Read writes into the room behind its list")
		}
	}
	fill(room, 0xF0)
	fill(list, nil)
	for i := range got {
		if !sameInputs(got[i], want[i]) {
			t.Fatalf("DOC 3: Read keeps what it is handed: %+v; want %+v", got[i], want[i])
		}
	}
}

// TestRunApart: no two lists of an answer share any memory, nor does one answer with another.
func TestRunApart(t *testing.T) {
	r := rand.New(rand.NewSource(197))
	for range 60 {
		x := newLife(t, r, map[string]int{})
		for range 100 {
			x.step()
		}
		want := alone(x.c, x.l)
		first, second := pump.Run(x.c, x.l, 8), pump.Run(x.c, x.l, 8)
		for _, o := range first {
			fill(o.Data, 0xF0)
		}
		fill(first, api.Out{Conn: 77})
		for i := range second {
			if !sameOuts(second[i:], want[i:]) {
				t.Fatalf("DOC 3: behind output %d: %s; want %s", i, told(second[i:]), told(want[i:]))
			}
			fill(second[i].Data, 0xF0)
		}
	}
}

// spoil writes over all lists of an input, and over their spare room.
func spoil(in api.Input) {
	p := in.Packet
	for _, b := range [][]byte{p.Msg.Payload, p.Will.Payload, p.Pass} {
		fill(b, 0xF0)
	}
	fill(p.Asks, api.Ask{Filter: "spoilt", QoS: 9})
	fill(p.Codes, 9)
	fill(p.Filters, "spoilt")
}

// TestReadApart: so it is with inputs, whatever is done with the lists ahead of them.
func TestReadApart(t *testing.T) {
	l := slices.Repeat(pieces(t), 2)
	for _, n := range []int{1, 2, 8} {
		first, second := pump.Read(1000, l, n), pump.Read(1000, l, n)
		for _, inputs := range first {
			for _, in := range inputs {
				spoil(in)
			}
			fill(inputs, api.Input{What: 9})
		}
		fill(first, nil)
		for i := range second {
			want := inputsOf(1000, l[i])
			for j := range second[i] {
				if !sameInputs(second[i][j:], want[j:]) {
					t.Fatalf("DOC 3: %d workers, piece %d, behind input %d: %+v; want %+v", n, i, j, second[i][j:], want[j:])
				}
				spoil(second[i][j])
			}
			fill(second[i], api.Input{What: 9})
		}
	}
}

// held tells how many bytes the program has, garbage aside.
func held() int {
	var s runtime.MemStats
	runtime.GC()
	runtime.GC()
	runtime.ReadMemStats(&s)
	return int(s.HeapAlloc)
}

// TestNothingKept: behind a call nothing of it is there but its answer.
func TestNothingKept(t *testing.T) {
	great := []byte(encoded(t, clean("a"), publish(msg("t", strings.Repeat("x", 8<<20), 0), 0)))
	c := wide()
	c.Most = api.MaxLength
	before := held()
	l := pump.Run(c, []api.Event{opens(1), {Kind: api.Bytes, Conn: 1, Data: great}, opens(2), {Kind: api.Bytes, Conn: 2, Data: great[:5<<20]}}, 8)
	in := pump.Read(api.MaxLength, [][]byte{great[:len(great)-1], great[:7<<20]}, 8)
	if n := held() - before; n > 1<<20 {
		t.Errorf("LANGUAGE 8: %d bytes are kept", n)
	}
	if len(l) != 3 || len(in) != 2 || len(in[0]) != 1 || len(in[1]) != 1 {
		t.Errorf("P19.1: %s; P19.2: %+v", told(l), in)
	}
	runtime.KeepAlive(great)
}
