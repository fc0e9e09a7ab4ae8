package broker_test

import (
	"fmt"
	"math/rand"
	"runtime"
	"strings"
	"testing"

	"crier/api"
	"crier/broker"
)

// TestOutputsApart: no two lists of an answer share any memory, their spare room included, nor does an earlier answer with a later one.
func TestOutputsApart(t *testing.T) {
	r := rand.New(rand.NewSource(168))
	for range 40 {
		s := someScript(t, r, 60)
		b := broker.New(s.c)
		var all []api.Out
		var was []string
		for _, e := range s.events {
			l := b.Do(e)
			for _, o := range l {
				all, was = append(all, o), append(was, shown(o))
			}
			fill(l, api.Out{Conn: 77})
		}
		for i := range all {
			if got := shown(all[i]); got != was[i] {
				t.Fatalf("DOC 3: output %d was %s, is %s", i, was[i], got)
			}
			fill(all[i].Data, 0xF0)
		}
	}
}

// TestImagesApart: the lists of an image share no memory, with one another or with the broker's.
func TestImagesApart(t *testing.T) {
	for _, v := range variants(exact()) {
		im := sample()
		b, _ := broker.From(v.c, im)
		spoilImage(im)
		first, second := b.Image(), b.Image()
		spoilImage(first)
		if got, want := imageText(second), imageText(sample()); got != want {
			t.Errorf("DOC 3, by %s: %s; want %s", v.name, got, want)
		}
		s := second.Sessions[1]
		fill(s.Window.Flight[0].Msg.Payload, 0xF0)
		fill(s.Window.Queue[0].Payload, 0xF0)
		fill(second.Retained[0].Payload, 0xF0)
		s.Window.Flight[0].Msg.Payload, s.Window.Queue[0].Payload, second.Retained[0].Payload = []byte("6"), []byte("8"), []byte("1")
		if got, want := imageText(second), imageText(sample()); got != want {
			t.Errorf("DOC 3, by %s: %s; want %s", v.name, got, want)
		}
	}
}

// TestFromChangesNothing: what From is handed stays as it is.
func TestFromChangesNothing(t *testing.T) {
	c := exact()
	c.Users = []api.User{{Name: "u", Word: "w"}}
	im := sample()
	b, _ := broker.From(c, im)
	b.Do(opens(0))
	b.Do(data(0, encoded(t, hello("a"), kind(api.Pubcomp, 3), subscribe(1, ask("b", 0)), publish(retained("a", "new", 0), 0))))
	if imageText(im) != imageText(sample()) || len(c.Users) != 1 || c.Users[0].Name != "u" {
		t.Errorf("DOC 3: %s", imageText(im))
	}
}

// TestShapesApart: what is done with a shape shows in no other one.
func TestShapesApart(t *testing.T) {
	b, _ := broker.From(exact(), sample())
	want := fmt.Sprint(b.Shapes())
	subs, kept := b.Shapes()
	for _, s := range append(subs.Kids, kept.Kids...) {
		fill(s.Levels, "spoilt")
		fill(s.Entries, api.Entry{Key: "spoilt"})
		fill(s.Kids, api.Shape{})
	}
	if got := fmt.Sprint(b.Shapes()); got != want {
		t.Errorf("DOC 3: %s; want %s", got, want)
	}
}

// TestTwoBrokers: what one is told doesn't touch the other.
func TestTwoBrokers(t *testing.T) {
	c := wide()
	a, _ := broker.From(c, sample())
	b, _ := broker.From(c, sample())
	a.Do(opens(0))
	a.Do(data(0, encoded(t, clean("a"), publish(retained("b", "", 0), 0), publish(retained("z", "z", 0), 0))))
	if got := imageText(b.Image()); got != imageText(sample()) {
		t.Errorf("DOC 6: %s", got)
	}
	if got := told(b.Do(data(0, "\xF0"))); got != "" {
		t.Errorf("DOC 6: %s", got)
	}
}

// rough: by how many bytes what held tells may be wrong.
const rough = 1 << 20

// held tells how many bytes the program has, garbage aside.
func held() int {
	var s runtime.MemStats
	runtime.GC()
	runtime.GC()
	runtime.ReadMemStats(&s)
	return int(s.HeapAlloc)
}

func small(t *testing.T, why string, before int, b *broker.Broker) {
	t.Helper()
	if n := held() - before; n > rough {
		t.Errorf("LANGUAGE 8: %s: %d bytes are kept", why, n)
	}
	runtime.KeepAlive(b)
}

// piece tells a short text that lies in a great one.
func piece(s string) string { return (strings.Repeat("l", 8<<20) + s)[8<<20:] }

// TestPieces: of texts and lists that are handed in, and that lie in great ones, just what is needed is kept.
func TestPieces(t *testing.T) {
	before := held()
	c := wide()
	c.Users = []api.User{{Name: piece("u"), Word: piece("w")}}
	b := broker.New(c)
	p := willed(hello(piece("a")), retained(piece("w/x"), piece("x"), 1))
	p.Will.Payload = append(make([]byte, 0, 8<<20), "will"...)
	p.HasUser, p.User, p.HasPass, p.Pass = true, piece("u"), true, []byte("w")
	b.Do(opens(0))
	m := retained(piece("t/u"), "x", 2)
	m.Payload = append(make([]byte, 0, 8<<20), "x"...)
	got := told(b.Take(0, inputs(p, subscribe(1, ask(piece("t/+"), 1)), publish(m, 1), publish(m, 2))))
	if got != "0 connack 0; 0 suback #1 [1]; 0 publish t/u=x q1 #1; 0 pubrec #1; 0 publish t/u=x q1 #2; 0 pubrec #2" {
		t.Fatalf("P16.4: %s", got)
	}
	small(t, "what is handed in by Take", before, b)
	if got := told(b.Do(closes(0))); got != "" {
		t.Fatalf("P16.1: %s", got)
	}
	small(t, "what is left of it offline", before, b)
	im := sample()
	im.Sessions[1].Client, im.Sessions[2].Client = piece("a"), piece("b")
	im.Sessions[1].Subs[1].Filter = piece("a/b")
	im.Sessions[1].Window.Queue[0].Topic = piece("b")
	im.Sessions[1].Window.Flight[0].Msg.Topic = piece("a/b")
	im.Retained[1].Topic = piece("a/b")
	second, _ := broker.From(wide(), im)
	im = api.Image{}
	small(t, "what is handed in by From", before, second)
	runtime.KeepAlive(b)
}

// TestGone: of what is over nothing is kept: great packets that were passed on, connections, clean sessions, wills.
func TestGone(t *testing.T) {
	before := held()
	c := wide()
	c.Most, c.Sessions = api.MaxLength, api.MaxSessions
	b := broker.New(c)
	b.Do(opens(0))
	big := publish(msg("t", "", 0), 0)
	big.Msg.Payload = make([]byte, 8<<20)
	b.Do(data(0, encoded(t, clean("a"), big)))
	small(t, "a message that nobody asked for", before+len(big.Msg.Payload), b)
	b.Do(data(0, encoded(t, big)[:8<<20]))
	if n := held() - before; n < 8<<20 {
		t.Errorf("P16.2: of a packet's beginning %d bytes are held", n)
	}
	b.Do(closes(0))
	small(t, "a packet's beginning", before+len(big.Msg.Payload), b)
	for _, way := range []string{"closed", "dropped", "broken"} {
		for n := range api.MaxConn + 1 {
			b.Do(opens(n))
			b.Do(data(n, encoded(t, willed(clean(""), msg("w", strings.Repeat("w", 100), 0)), subscribe(1, ask(fmt.Sprint("f/", n), 0)))))
		}
		if n := held() - before; n < 8<<20 {
			t.Errorf("P16.1: of all connections %d bytes are held", n)
		}
		switch way {
		case "closed":
			for n := range api.MaxConn + 1 {
				b.Do(closes(n))
			}
		case "dropped":
			b.Drop()
		case "broken":
			for n := range api.MaxConn + 1 {
				b.Do(data(n, "\xF0"))
			}
		}
		small(t, way, before+len(big.Msg.Payload), b)
	}
	runtime.KeepAlive(big.Msg.Payload)
}
