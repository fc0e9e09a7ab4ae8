package script_test

import (
	"fmt"
	"math/rand"
	"strings"
	"testing"

	"crier/api"
	"crier/broker"
	"crier/codec"
	"crier/net"
	"crier/script"
)

// modelPlay tells the lines of P20.10, all of them, whatever their length.
func modelPlay(n api.Net, l []api.Step) []string {
	var b *broker.Broker
	var x *net.Net
	if len(n.Clients) == 0 {
		b = broker.New(n.Config)
	} else {
		made, e := net.New(n)
		if e != api.OK {
			return []string{fmt.Sprintf("refused err %d", int(e))}
		}
		x = made
	}
	var lines []string
	lay := func(l ...things) {
		for _, x := range l {
			lines = append(lines, x.line())
		}
	}
	for _, s := range l {
		switch {
		case s.Kind == api.StepShow && b != nil:
			lay(imageThings(b.Image())...)
		case s.Kind == api.StepShow:
			lay(imageThings(x.Image())...)
		case s.Kind == api.StepEvent && b != nil:
			lay(outThings(b.Do(s.Event))...)
		case s.Kind == api.StepPacket && b != nil:
			data, e := codec.Encode(s.Packet)
			if e != api.OK {
				lay(things{}.word("refused").word("err").number(int(e)))
				continue
			}
			lay(outThings(b.Do(api.Event{Kind: api.Bytes, Conn: s.Conn, Data: data}))...)
		case s.Kind == api.StepMove && x != nil:
			if e := x.Do(s.Move); e != api.OK {
				lay(things{}.word("refused").word("err").number(int(e)))
			} else {
				lay(things{}.word("ok"))
			}
		case s.Kind == api.StepGot && x != nil:
			state, _ := x.State(s.Client)
			lay(things{}.word("client").word([]string{"down", "asking", "up"}[state.Phase]).number(state.Under).number(state.Waiting).number(state.Open))
			for _, y := range x.Got(s.Client) {
				lay(things{}.word("told").message(y.Msg).mark("dup", y.Dup))
			}
		default:
			lay(things{}.word("not").word("here"))
		}
	}
	return lines
}

func outThings(l []api.Out) []things {
	var out []things
	for _, o := range l {
		if o.Closed {
			out = append(out, things{}.word("closed").number(o.Conn))
		} else {
			out = append(out, things{}.word("to").number(o.Conn).quote(string(o.Data)))
		}
	}
	return out
}

func imageThings(m api.Image) []things {
	out := []things{things{}.word("image").number(m.Autos)}
	for _, s := range m.Sessions {
		out = append(out, things{}.word("session").quote(s.Client).word("last").number(s.Window.Last))
		for _, a := range s.Subs {
			out = append(out, things{}.word("sub").quote(a.Filter).number(a.QoS))
		}
		for _, f := range s.Window.Flight {
			if f.Released {
				out = append(out, things{}.word("flight").number(f.ID).word("released"))
			} else {
				out = append(out, things{}.word("flight").number(f.ID).message(f.Msg))
			}
		}
		for _, w := range s.Window.Queue {
			out = append(out, things{}.word("wait").message(w))
		}
		for _, n := range s.Inbox {
			out = append(out, things{}.word("came").number(n))
		}
	}
	for _, k := range m.Retained {
		out = append(out, things{}.word("kept").message(k))
	}
	return out
}

// bounded tells the answer of which these are all lines.
func bounded(lines []string) string {
	var b strings.Builder
	for _, s := range lines {
		if b.Len()+len(s)+1 > 4194304 {
			return b.String() + "more\n"
		}
		b.WriteString(s + "\n")
	}
	return b.String()
}

// plays holds what Play answers.
func plays(t *testing.T, setup, text string, want ...string) {
	t.Helper()
	got, err := script.Play(setup, text)
	whole := ""
	if len(want) > 0 {
		whole = strings.Join(want, "\n") + "\n"
	}
	if err != nil || got != whole {
		t.Errorf("P20.10: %s\n%s\nanswers %v\n%swant\n%s", setup, text, err, got, whole)
	}
}

// TestExamples: doc/20-script.md's.
func TestExamples(t *testing.T) {
	text := "open 1\n" +
		"send 1 connect 4 60 \"c\" clean will \"w\" \"bye\" 1 retain   # a will\n" +
		"repeat 2\n" +
		"send 1 publish \"a/b\" \"x\\x00\" 1 dup id 7\n" +
		"end\n" +
		"subscribe 0 \"a/#\" 2 \"b\" 0\n" +
		"out 0 -1\n"
	l := parsed(t, text)
	publish := send(1, api.Packet{Kind: api.Publish, Msg: msg("a/b", "x\x00", 1, false), Dup: true, ID: 7})
	if !same(l, []api.Step{
		event(api.Open, 1, ""),
		send(1, api.Packet{Kind: api.Connect, Level: 4, KeepAlive: 60, Client: "c", Clean: true, HasWill: true, Will: msg("w", "bye", 1, true)}),
		publish, publish,
		move(api.Move{Kind: api.MoveSubscribe, Asks: []api.Ask{{Filter: "a/#", QoS: 2}, {Filter: "b"}}}),
		move(api.Move{Kind: api.MoveOut, N: -1}),
	}) {
		t.Errorf("example 1: %+v", l)
	}
	want := "open 1\n" +
		"send 1 connect 4 60 \"c\" clean will \"w\" \"bye\" 1 retain\n" +
		"send 1 publish \"a/b\" \"x\\x00\" 1 dup id 7\n" +
		"send 1 publish \"a/b\" \"x\\x00\" 1 dup id 7\n" +
		"subscribe 0 \"a/#\" 2 \"b\" 0\n" +
		"out 0 -1\n"
	if got := printed(t, l); got != want {
		t.Errorf("example 1: %s", got)
	}
	for text, want := range map[string]string{
		"open":                                  at(api.ErrScriptEnd, 4),
		"open x":                                at(api.ErrScriptNumber, 5),
		"send 1 publish \"a\" \"x\" 1 id":       at(api.ErrScriptEnd, 27),
		"send 1 publish \"a\" \"x\" 1 id 7 dup": at(api.ErrScriptWord, 30),
		"send 1 connect 4 0 \"c\" user":         at(api.ErrScriptEnd, 27),
		"go":                                    at(api.ErrScriptWord, 0),
		"end":                                   at(api.ErrScriptWord, 0),
		"tick 1":                                at(api.ErrScriptWord, 5),
		"subscribe 0 \"a\"":                     at(api.ErrScriptEnd, 15),
		"":                                      "nil",
	} {
		refused(t, "example 2", text, want)
	}
	if n, err := script.Setup(broker9); err != nil || len(n.Clients) > 0 {
		t.Errorf("example 3: %+v, %v", n, err)
	}
	plays(t, broker9, "open 1\nsend 1 connect 4 0 \"c\" clean\nsend 1 pingreq\nbytes 1 \"\\xc1\"\nup 0\nshow",
		`to 1 " \x02\x00\x00"`, `to 1 "\xd0\x00"`, "closed 1", "not here", "image 0")
}

// TestPlayErrors: the setup's fault is ahead of the script's; both are ahead of a net that is refused (P20.10).
func TestPlayErrors(t *testing.T) {
	twins := client9 + " client \"a\" clean keep 0 window 1"
	for _, x := range []struct{ setup, text, want string }{
		{"tries", "x", at(api.ErrScriptEnd, 5)},
		{"tries", "tick", at(api.ErrScriptEnd, 5)},
		{broker9 + strings.Repeat(" ", 4000), "x", at(api.ErrScriptLong, 0)},
		{broker9, "tick\nx", at(api.ErrScriptWord, 5)},
		{client9, "tick\nopen", at(api.ErrScriptEnd, 9)},
		{twins, "tick\nx", at(api.ErrScriptWord, 5)},
		{broker9, repeated(1000, strings.Repeat("tick\n", 5)), at(api.ErrScriptMany, 37)},
		{broker9, strings.Repeat(" ", 65537), at(api.ErrScriptLong, 0)},
	} {
		if got, err := script.Play(x.setup, x.text); got != "" || fault(err) != x.want {
			t.Errorf("P20.10: %.100q, %.100q: %q, %s; want %s", x.setup, x.text, got, fault(err), x.want)
		}
	}
	plays(t, twins, "rest", "refused err 180")
	plays(t, twins, "", "refused err 180")
	plays(t, twins, "tick\nshow\ngot 0", "refused err 180")
	plays(t, broker9+" client \"\" lasting keep 0 window 1", "rest", "refused err 180")
	plays(t, broker9, "")
	plays(t, client9, "# nothing\n")
}

// TestPlayBroker: a broker's lines (P20.10).
func TestPlayBroker(t *testing.T) {
	setup := strings.Replace(broker9, "window 2", "window 1", 1) + " user \"u\" \"w\""
	text := `
open 1
send 1 connect 4 0 "\"\\" user "u" pass "w"
send 1 subscribe 7 "t/#" 2 "+" 0
open 2
send 2 connect 4 0 "" clean user "u" pass "w"
send 2 publish "t" "\x00é" 1 id 5
send 2 publish "t" "a\\" 2 retain id 6
send 2 publish "t/x" "" 0
show
close 1
show
send 1 pingreq
send 1 puback 0
send 1 publish "#" "" 0
send 9 connack 0
close 9
tick
tick
open 3
send 3 connect 4 0 "c" user "u" pass "v"
got 0
up 0
rest
open 65536
send 2 disconnect`
	text = strings.Replace(text, "é", `\xc3\xa9`, 1)
	plays(t, setup, text,
		`to 1 " \x02\x00\x00"`,
		`to 1 "\x90\x04\x00\x07\x02\x00"`,
		`to 2 " \x02\x00\x00"`,
		`to 1 "2\x08\x00\x01t\x00\x01\x00\xc3\xa9"`,
		`to 2 "@\x02\x00\x05"`,
		`to 2 "P\x02\x00\x06"`,
		`to 1 "0\x05\x00\x03t/x"`,
		`image 1`,
		`session "\"\\" last 1`,
		`sub "+" 0`,
		`sub "t/#" 2`,
		`flight 1 "t" "\x00\xc3\xa9" 1`,
		`wait "t" "a\\" 2`,
		`kept "t" "a\\" 2 retain`,
		`image 1`,
		`session "\"\\" last 1`,
		`sub "+" 0`,
		`sub "t/#" 2`,
		`flight 1 "t" "\x00\xc3\xa9" 1`,
		`wait "t" "a\\" 2`,
		`kept "t" "a\\" 2 retain`,
		`refused err 26`,
		`refused err 23`,
		`to 3 " \x02\x00\x04"`,
		`closed 3`,
		`not here`,
		`not here`,
		`not here`,
		`closed 2`,
	)
}

// TestPlayShow: all that an image has, each in its line, in its order (P20.10).
func TestPlayShow(t *testing.T) {
	setup := "list cache 0 window 3 queue 9 subs 9 retained 9 sessions 9 most 1000 patience 0"
	text := `
open 1
send 1 connect 4 0 "b"
send 1 subscribe 1 "x" 2 "a/b" 1 "a" 0
send 1 publish "r/2" "2" 0 retain
send 1 publish "r/1" "1" 2 retain id 900
send 1 publish "r/0" "0" 1 retain id 901
send 1 publish "q" "q" 2 id 17
send 1 publish "x" "1" 2 id 18
send 1 publish "x" "2" 2 id 65535
send 1 pubrec 1
send 1 publish "x" "3" 2 id 1
send 1 publish "x" "4" 1 id 2
send 1 subscribe 2 "r/+" 2
open 2
send 2 connect 4 0 "a"
close 2
open 3
send 3 connect 4 0 "" clean
open 4
send 4 connect 4 0 "" clean
open 5
send 5 connect 4 0 "clean" clean
send 5 subscribe 2 "r/+" 2
close 1
`
	played, err := script.Play(setup, text)
	if err != nil {
		t.Fatal(err)
	}
	got, err := script.Play(setup, text+"show")
	want := strings.Join([]string{
		`image 2`,
		`session "a" last 0`,
		`session "b" last 3`,
		`sub "a" 0`,
		`sub "a/b" 1`,
		`sub "r/+" 2`,
		`sub "x" 2`,
		`flight 1 released`,
		`flight 2 "x" "2" 2`,
		`flight 3 "x" "3" 2`,
		`wait "x" "4" 1`,
		`wait "r/0" "0" 1 retain`,
		`wait "r/1" "1" 2 retain`,
		`came 1`,
		`came 17`,
		`came 18`,
		`came 900`,
		`came 65535`,
		`kept "r/0" "0" 1 retain`,
		`kept "r/1" "1" 2 retain`,
		`kept "r/2" "2" 0 retain`,
		``,
	}, "\n")
	if err != nil || got != played+want {
		t.Errorf("P20.10: %s\n%v\nwant\n%s", got[min(len(played), len(got)):], err, want)
	}
}

// TestPlayNet: a net's lines (P20.10).
func TestPlayNet(t *testing.T) {
	setup := client9 + " client \"b\" lasting keep 0 window 1 client \"\" clean keep 0 window 1"
	text := `
got 0
up 0
got 0
up 0
up 1
rest
got 0
subscribe 0 "t" 2 "u/#" 1
got 0
unsubscribe 0 "v"
got 0
rest
publish 1 "t" "\"" 2
publish 1 "t" "y" 1
publish 1 "t" "z" 1
got 1
in 1 1000
out 0 1000
fade 0
got 0
show
up 0
rest
got 0
got 1
publish 2 "t" "" 1
publish 0 "+" "" 0
subscribe 0
cut 2
cut 3
got 3
got -1
open 1
tick
send 1 pingreq
send 1 connack 999
bytes 1 "x"
second
reboot
got 0
up 2
rest
publish 2 "u" "kept\x00" 1 retain
leave 2
up 0
rest
got 0
show`
	plays(t, setup, text,
		"client down 0 0 0", "ok", "client asking 0 0 0", "refused err 171", "ok", "ok", "client up 0 0 0",
		"ok", "client up 0 0 1", "ok", "client up 0 0 2", "ok",
		"ok", "ok", "ok", "client up 1 2 0",
		"ok", "ok", "ok", "client down 0 0 0", `told "t" "\"" 2`,
		"image 0", `session "a" last 1`, `sub "t" 2`, `sub "u/#" 1`, `flight 1 "t" "\"" 2`, `session "b" last 0`, "came 1",
		"ok", "ok", "client up 0 0 0", `told "t" "\"" 2`, `told "t" "y" 1`, `told "t" "z" 1`, "client up 0 0 0",
		"refused err 172", "refused err 173", "refused err 175", "refused err 183", "refused err 181",
		"client down 0 0 0", "client down 0 0 0",
		"not here", "not here", "not here", "not here", "not here",
		"ok", "ok", "client down 0 0 0", `told "t" "\"" 2`, `told "t" "y" 1`, `told "t" "z" 1`,
		"ok", "ok", "ok", "ok", "ok", "ok",
		"client up 0 0 0", `told "t" "\"" 2`, `told "t" "y" 1`, `told "t" "z" 1`, `told "u" "kept\x00" 1`,
		"image 1", `session "a" last 4`, `sub "t" 2`, `sub "u/#" 1`, `session "b" last 0`, `kept "u" "kept\x00" 1 retain`,
	)
	plays(t, client9, "up 0\nrest\nsubscribe 0 \"t\" 2\nrest\npublish 0 \"t\" \"x\" 1 retain\nin 0 100\nfade 0\nup 0\nrest\nsubscribe 0 \"t\" 1\nrest\ngot 0",
		"ok", "ok", "ok", "ok", "ok", "ok", "ok", "ok", "ok", "ok", "ok",
		"client up 0 0 0", `told "t" "x" 1 dup`, `told "t" "x" 1`, `told "t" "x" 1 retain`)
}

// TestPlayMore: an answer of just MaxPlay bytes, whichever line is its last one, and one in which that line has a byte less room (P20.10).
func TestPlayMore(t *testing.T) {
	const bound = 4194304
	for name, x := range map[string]struct{ setup, begin, fill, tell, end string }{
		"broker": {
			setup: strings.Replace(broker9, "most 1000", "most 100000", 1),
			begin: "open 1\nsend 1 connect 4 0 \"c\" clean\nopen 2\nsend 2 connect 4 0 \"d\"\nsend 2 subscribe 1 \"s\" 2\nsend 2 publish \"s\" \"x\" 2 id 7\n",
			fill:  "send 1 publish \"t\" \"%s\" 0 retain\n",
			tell:  "show\n",
			end:   "send 1 pingreq\nup 0\nsend 1 publish \"s\" \"y\" 1 id 1\nsend 1 puback 0\nbytes 1 \"\\x00\"\nsend 2 publish \"s\" \"y\" 1 id 1\nshow\n",
		},
		"net": {
			setup: strings.Replace(client9, "most 1000", "most 100000", 1),
			begin: "up 0\nrest\nsubscribe 0 \"t\" 1\nrest\n",
			fill:  "publish 0 \"t\" \"%s\" 0\nrest\n",
			tell:  "got 0\n",
			end:   "up 0\nsecond\ntick\nshow\ngot 0\nfade 0\n",
		},
	} {
		n, err := script.Setup(x.setup)
		if err != nil {
			t.Fatal(err)
		}
		text := func(size int) string {
			return x.begin + fmt.Sprintf(x.fill, strings.Repeat("w", 31000)) + repeated(134, x.tell) +
				fmt.Sprintf(x.fill, strings.Repeat("v", size)) + x.tell + x.end
		}
		const size = 20000
		lines := modelPlay(n, parsed(t, text(size)))
		holds := func(size int, suffix string, total int) {
			t.Helper()
			want := bounded(modelPlay(n, parsed(t, text(size))))
			got, err := script.Play(x.setup, text(size))
			if err != nil || got != want || !strings.HasSuffix(got, suffix) || len(got) != total {
				t.Errorf("P20.10: %s: %d bytes, %v; want %d, %d, %q behind", name, len(got), err, len(want), total, suffix)
			}
		}
		total, times, told := 0, 0, 0
		for i, line := range lines {
			total += len(line) + 1
			if times += strings.Count(line, strings.Repeat("v", size)); times != 1 {
				continue
			}
			fits := size + bound - total // with that size the line is the last one that has room
			if i+1 == len(lines) || fits < 0 {
				continue
			}
			without := bound - len(line)
			if begin, _, long := strings.Cut(line, "vvv"); long {
				without += size - fits - 1
				line = line[len(begin)+size:]
			}
			holds(fits, line+"\nmore\n", bound+len("more\n"))
			holds(fits+1, "\nmore\n", without+len("more\n"))
			told++
		}
		if told < 6 {
			t.Errorf("the test tells little: %d", told)
		}
		x.end = ""
		whole := strings.Join(modelPlay(n, parsed(t, text(size))), "\n") + "\n"
		holds(size+bound-len(whole), whole[len(whole)-9:], bound)
		holds(size+bound-len(whole)-1, whole[len(whole)-9:], bound-1)
	}
}

// TestPlayLongLines: a line that fills the answer, and longer ones: alone, or far beyond the bound (P20.10).
func TestPlayLongLines(t *testing.T) {
	setup := strings.Replace(broker9, "most 1000", "most 268435455", 1)
	head := func(size int) string { // of a Publish of t, retained
		b, _ := codec.Encode(api.Packet{Kind: api.Publish, Msg: api.Message{Topic: "t", Payload: make([]byte, size), Retain: true}})
		return string(b[:len(b)-size])
	}
	text := func(c string, size int) string {
		return "open 1\nsend 1 connect 4 0 \"c\" clean\nbytes 1 " + quote(head(size)) + "\n" +
			repeated(1000, "bytes 1 "+quote(strings.Repeat(c, size/1000))+"\n") + "bytes 1 " + quote(strings.Repeat(c, size%1000)) + "\nshow\n"
	}
	ahead := `to 1 " \x02\x00\x00"` + "\nimage 0\n"
	kept := func(c string, size int) string {
		return "kept \"t\" " + quote(strings.Repeat(c, size)) + " 0 retain\n"
	}
	room := 4194304 - len(ahead) - len(kept("", 0))
	for _, x := range []struct {
		c    string
		size int
		want string
	}{
		{"w", room, ahead + kept("w", room)},
		{"w", room - 1, ahead + kept("w", room-1)},
		{"w", room + 1, ahead + "more\n"},
		{"w", 4194280, ahead + "more\n"},
		{"\x00", room / 4, ahead + kept("\x00", room/4)},
		{"\x00", room/4 + 1, ahead + "more\n"},
		{"\"", room / 2, ahead + kept("\"", room/2)},
		{"\"", room/2 + 1, ahead + "more\n"},
		{"\xff", 4194280, ahead + "more\n"},
	} {
		got, err := script.Play(setup, text(x.c, x.size))
		if err != nil || got != x.want {
			t.Errorf("P20.10: %d times %q: %d bytes, %v; want %d", x.size, x.c, len(got), err, len(x.want))
		}
	}
}

// someSetupFor tells a small setup with room for something.
func someSetupFor(r *rand.Rand, clients int) api.Net {
	n := api.Net{Config: api.Config{List: someMark(r), Cache: r.Intn(3), Window: 1 + r.Intn(2), Queue: r.Intn(5), Subs: 1 + r.Intn(5), Retained: r.Intn(4), Sessions: someOf(r, 1, 9, 9), Most: someOf(r, 30, 1000, 1000), Patience: someOf(r, 0, 0, 0, 9)}}
	for i := range clients {
		n.Clients = append(n.Clients, api.Who{Name: string(rune('a' + i)), Clean: r.Intn(3) == 0, KeepAlive: r.Intn(4), Window: 1 + r.Intn(2)})
	}
	return n
}

// smallMessage tells one that can be, as a rule.
func smallMessage(r *rand.Rand) api.Message {
	m := msg(someOf(r, "a", "a", "b", "a/b", "$x", "é"), someText(r), r.Intn(3), r.Intn(3) == 0)
	if r.Intn(20) == 0 {
		return someOf(r, msg("a+", "", 0, false), msg("a", "", 3, false))
	}
	return m
}

func smallAsks(r *rand.Rand) []api.Ask {
	l := []api.Ask{{Filter: someOf(r, "a", "#", "+", "a/#", "b", "a", "#", "a#"), QoS: someOf(r, 0, 1, 2, 2)}}
	for r.Intn(3) == 0 {
		l = append(l, api.Ask{Filter: someOf(r, "a", "#", "+/b", "é"), QoS: r.Intn(3)})
	}
	return l
}

// liveStep tells a step that does something, as a rule: of a broker's or of a net's kind.
func liveStep(r *rand.Rand, clients int) api.Step {
	switch {
	case r.Intn(12) == 0:
		return api.Step{Kind: api.StepShow}
	case r.Intn(25) == 0:
		return someStep(r)
	case clients > 0:
		return liveMove(r, clients)
	}
	n, id := 1+r.Intn(3), 1+r.Intn(4)
	switch r.Intn(24) {
	case 0:
		return event(api.Open, n, "")
	case 1:
		return someOf(r, event(api.Close, n, ""), event(api.Bytes, n, someOf(r, "\x00", "\xC1", "\xE0\x00")), event(api.Tick, 0, ""))
	case 2:
		return event(api.Bytes, n, someOf(r, "\xC0\x00", ""))
	case 3, 4:
		p := api.Packet{Kind: api.Publish, Msg: smallMessage(r), Dup: r.Intn(9) == 0}
		if p.Msg.QoS > 0 {
			p.ID = id
		}
		return send(n, p)
	case 5:
		return send(n, api.Packet{Kind: api.Unsubscribe, ID: id, Filters: []string{someOf(r, "a", "#")}})
	case 6:
		return send(n, api.Packet{Kind: someOf(r, api.Puback, api.Pubrec, api.Pubrel, api.Pubcomp), ID: id})
	case 7, 8, 9, 10:
		return send(n, api.Packet{Kind: api.Subscribe, ID: id, Asks: smallAsks(r)})
	}
	p := api.Packet{Kind: api.Publish, Msg: msg(someOf(r, "a", "b"), someText(r), 1+r.Intn(2), r.Intn(5) == 0), ID: id}
	return send(n, p)
}

// entry tells the steps by which a connection is there anew.
func entry(r *rand.Rand, n int) []api.Step {
	p := api.Packet{Kind: api.Connect, Level: 4, KeepAlive: someOf(r, 0, 0, 0, 9), Client: someOf(r, "a", "b", "c"), Clean: r.Intn(4) == 0}
	if r.Intn(3) == 0 {
		p.HasWill, p.Will = true, smallMessage(r)
	}
	switch r.Intn(20) {
	case 0:
		p.Level = 3
	case 1:
		p.Client = ""
	}
	return []api.Step{event(someOf(r, api.Open, api.Close), n, ""), event(api.Open, n, ""), send(n, p)}
}

func liveMove(r *rand.Rand, clients int) api.Step {
	n := r.Intn(clients)
	switch r.Intn(16) {
	case 0, 1, 2:
		return move(api.Move{Kind: api.MoveUp, Client: n})
	case 3:
		return move(api.Move{Kind: someOf(r, api.MoveCut, api.MoveFade, api.MoveLeave), Client: n})
	case 4, 5, 6:
		return move(api.Move{Kind: api.MovePublish, Client: n, Msg: smallMessage(r)})
	case 7, 8:
		return move(api.Move{Kind: api.MoveSubscribe, Client: n, Asks: smallAsks(r)})
	case 9, 10:
		return move(api.Move{Kind: someOf(r, api.MoveIn, api.MoveOut), Client: n, N: someOf(r, 1, 3, 1000)})
	case 11, 12:
		return move(api.Move{Kind: api.MoveRest})
	case 13:
		return move(api.Move{Kind: someOf(r, api.MoveTick, api.MoveTick, api.MoveReboot)})
	}
	return api.Step{Kind: api.StepGot, Client: n}
}

// TestSomePlays: what Play tells is what a broker, or a net, that is told the steps does; a first part of the steps has the first part of the lines (P20.10, P20.12).
func TestSomePlays(t *testing.T) {
	r := rand.New(rand.NewSource(210))
	seen := map[string]int{}
	for i := range 1500 {
		clients := 0
		if i%2 > 0 {
			clients = 1 + r.Intn(3)
		}
		n := someSetupFor(r, clients)
		var l []api.Step
		for range r.Intn(60) {
			if clients == 0 && r.Intn(6) == 0 {
				l = append(l, entry(r, 1+r.Intn(3))...)
			}
			l = append(l, liveStep(r, clients))
		}
		setup := netThings(n).line()
		lines := modelPlay(n, l)
		plays(t, setup, textOf(l), lines...)
		part := r.Intn(len(l) + 1)
		plays(t, setup, textOf(l[:part]), lines[:len(modelPlay(n, l[:part]))]...)
		for _, s := range lines {
			seen[strings.Fields(s)[0]]++
		}
		if t.Failed() {
			return
		}
	}
	for _, word := range []string{"to", "closed", "refused", "ok", "not", "image", "session", "sub", "flight", "wait", "came", "kept", "client", "told"} {
		if seen[word] < 100 {
			t.Errorf("the test tells little: %v", seen)
		}
	}
}
