package script_test

import (
	"math/rand"
	"slices"
	"strings"
	"sync"
	"testing"

	"crier/api"
	"crier/script"
)

// lists tells all lists of a step, each by a function that writes over it and over its spare room.
func lists(s api.Step) []func() {
	p, m := s.Packet, s.Move
	return []func(){
		func() { overwrite(s.Event.Data, '!') },
		func() { overwrite(p.Will.Payload, '!') },
		func() { overwrite(p.Pass, '!') },
		func() { overwrite(p.Msg.Payload, '!') },
		func() { overwrite(p.Asks, api.Ask{Filter: "spoilt", QoS: 9}) },
		func() { overwrite(p.Codes, -9) },
		func() { overwrite(p.Filters, "spoilt") },
		func() { overwrite(m.Msg.Payload, '!') },
		func() { overwrite(m.Asks, api.Ask{Filter: "spoilt", QoS: 9}) },
		func() { overwrite(m.Filters, "spoilt") },
	}
}

func overwrite[T any](l []T, with T) {
	l = l[:cap(l)]
	for i := range l {
		l[i] = with
	}
}

// spoil writes over all lists of a step.
func spoil(s api.Step) {
	for _, do := range lists(s) {
		do()
	}
}

// everything is a script of each kind of line that has a list.
const everything = `bytes 1 "data"
send 1 connect 4 0 "c" will "t" "will" 0 user "u" pass "word"
send 1 publish "t" "payload" 0
send 1 subscribe 1 "a" 1 "b" 2
send 1 suback 1 0 1 2
send 1 unsubscribe 1 "a" "b" "c"
publish 1 "t" "payload" 0
subscribe 1 "a" 1 "b" 2
unsubscribe 1 "a" "b" "c"
bytes 1 ""
subscribe 1
`

// TestParseApart: no two steps share memory, those of a repeat neither (P20.7); nor do two answers.
func TestParseApart(t *testing.T) {
	for _, text := range []string{everything, repeated(1, everything), repeated(4, everything), everything + repeated(2, everything) + repeated(3, everything)} {
		n := strings.Count(textOf(parsed(t, text)), "\n")
		for i := range n {
			l, other := parsed(t, text), parsed(t, text)
			want := textOf(l)
			spoil(l[i])
			rest := slices.Concat(l[:i], other[i:i+1], l[i+1:])
			if textOf(rest) != want || textOf(other) != want {
				t.Fatalf("P20.7: %.40q: step %d shares memory", text, i)
			}
			overwrite(l, api.Step{Kind: api.StepShow})
			if textOf(other) != want || textOf(parsed(t, text)) != want {
				t.Fatalf("DOC 3: %.40q: two answers share memory", text)
			}
		}
	}
}

// TestListsApart: no two lists of one step share memory.
func TestListsApart(t *testing.T) {
	const text = `send 1 connect 4 0 "c" will "t" "will" 0 pass "word"`
	for i := range lists(api.Step{}) {
		for _, l := range [][]api.Step{parsed(t, text), parsed(t, repeated(2, text+"\n"))} {
			s := l[len(l)-1]
			lists(s)[i]()
			whole := string(s.Packet.Will.Payload) + string(s.Packet.Pass)
			if whole != map[int]string{1: "!!!!word", 2: "will!!!!"}[i] && whole != "willword" {
				t.Errorf("DOC 3: list %d: %s", i, whole)
			}
		}
	}
}

// TestSetupApart: two answers of Setup share no memory.
func TestSetupApart(t *testing.T) {
	const text = broker9 + ` user "u" "w" user "v" "x" user "y" "z" client "a" lasting keep 1 window 2 client "b" clean keep 3 window 4 client "c" clean keep 3 window 4`
	a, _ := script.Setup(text)
	b, _ := script.Setup(text)
	want := netThings(a).line()
	overwrite(a.Config.Users, api.User{Name: "spoilt"})
	overwrite(a.Clients, api.Who{Name: "spoilt"})
	if c, _ := script.Setup(text); netThings(b).line() != want || netThings(c).line() != want {
		t.Error("DOC 3: two answers of Setup share memory")
	}
}

// roomy tells a step with spare room behind all its lists, that holds something, and all of it.
func roomy(s api.Step) (api.Step, func() string) {
	var told []func() string
	bytes := func(l *[]byte) {
		whole := append(append(make([]byte, 0, len(*l)+3), *l...), "abc"...)
		*l = whole[:len(*l)]
		told = append(told, func() string { return string(whole) })
	}
	bytes(&s.Event.Data)
	bytes(&s.Packet.Will.Payload)
	bytes(&s.Packet.Pass)
	bytes(&s.Packet.Msg.Payload)
	bytes(&s.Move.Msg.Payload)
	for _, l := range []*[]api.Ask{&s.Packet.Asks, &s.Move.Asks} {
		whole := append(append([]api.Ask{}, *l...), api.Ask{Filter: "room", QoS: 7})
		*l = whole[:len(*l)]
		told = append(told, func() string { return things{}.asks(whole).line() })
	}
	for _, l := range []*[]string{&s.Packet.Filters, &s.Move.Filters} {
		whole := append(append([]string{}, *l...), "room")
		*l = whole[:len(*l)]
		told = append(told, func() string { return things{}.texts(whole).line() })
	}
	codes := append(append([]int{}, s.Packet.Codes...), 7)
	s.Packet.Codes = codes[:len(codes)-1]
	told = append(told, func() string {
		l := things{}
		for _, n := range codes {
			l = l.number(n)
		}
		return l.line()
	})
	return s, func() string {
		b := ""
		for _, tell := range told {
			b += tell() + "\n"
		}
		return b
	}
}

// TestPrintHandedIn: Print changes nothing of what it is handed, the spare room included; what hangs there doesn't show.
func TestPrintHandedIn(t *testing.T) {
	r := rand.New(rand.NewSource(203))
	for range 500 {
		l := append(parsed(t, everything), someSteps(r, 3)...)
		if r.Intn(4) == 0 {
			l[r.Intn(len(l))].Conn++ // it may have no text then
		}
		want, wantFault := script.Print(l)
		var wholes []func() string
		for i := range l {
			s, whole := roomy(l[i])
			l[i] = s
			wholes = append(wholes, whole)
		}
		all := func() string {
			b := textOf(l)
			for _, whole := range wholes {
				b += whole()
			}
			return b
		}
		before := all()
		got, err := script.Print(l)
		if got != want || fault(err) != fault(wantFault) {
			t.Fatalf("DOC 6: Print's answer hangs on spare room: %q; want %q", got, want)
		}
		if all() != before {
			t.Fatal("DOC 3: Print changes what it is handed")
		}
		kept := strings.Clone(got)
		for _, s := range l {
			spoil(s)
		}
		if got != kept {
			t.Fatal("DOC 3: Print keeps what it is handed")
		}
	}
}

// TestNothingKept: what a call answers doesn't hang on the calls ahead of it, nor on others at the same time (DOC 6).
func TestNothingKept(t *testing.T) {
	r := rand.New(rand.NewSource(213))
	type game struct{ setup, text, want string }
	var games []game
	for i := range 40 {
		clients := i % 3
		n := someSetupFor(r, clients)
		var l []api.Step
		for range 30 {
			l = append(l, liveStep(r, clients))
		}
		g := game{setup: netThings(n).line(), text: textOf(l)}
		g.want, _ = script.Play(g.setup, g.text)
		games = append(games, g)
	}
	games = append(games, game{setup: "x"}, game{setup: broker9, text: "x"})
	var all sync.WaitGroup
	for range 4 {
		all.Go(func() {
			for _, g := range games {
				if got, _ := script.Play(g.setup, g.text); got != g.want {
					t.Errorf("DOC 6: %q; want %q", got, g.want)
				}
			}
		})
	}
	all.Wait()
}
