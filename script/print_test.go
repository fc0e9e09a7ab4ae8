package script_test

import (
	"fmt"
	"math"
	"math/rand"
	"reflect"
	"slices"
	"strings"
	"testing"

	"crier/api"
	"crier/script"
)

// noText holds that steps have no text, and which one of them is the first by which they have none (P20.9).
func noText(t *testing.T, why string, l []api.Step, place int) {
	t.Helper()
	if text, err := script.Print(l); text != "" || fault(err) != at(api.ErrScriptPrint, place) {
		t.Errorf("P20.9: %s: %.100q, %s; want %s", why, text, fault(err), at(api.ErrScriptPrint, place))
	}
}

// leaves goes through all fields of a value, those within others too, by their paths.
func leaves(v reflect.Value, path string, do func(path string, v reflect.Value)) {
	if v.Kind() != reflect.Struct {
		do(path, v)
		return
	}
	for i := range v.NumField() {
		leaves(v.Field(i), strings.TrimPrefix(path+"."+v.Type().Field(i).Name, "."), do)
	}
}

// stir makes a field another one that isn't zero.
func stir(v reflect.Value) {
	switch v.Kind() {
	case reflect.Int:
		v.SetInt(v.Int() + 1)
		if v.Int() == 0 {
			v.SetInt(1)
		}
	case reflect.Bool:
		v.SetBool(!v.Bool())
	case reflect.String:
		v.SetString(v.String() + "x")
	case reflect.Slice:
		v.Set(reflect.Append(v, reflect.Zero(v.Type().Elem())))
	}
}

// namedFields tells which fields a line of a step of these kinds names; a kind isn't one of them.
func namedFields(s api.Step) []string {
	switch s.Kind {
	case api.StepEvent:
		return map[int][]string{
			api.Open: {"Event.Conn"}, api.Close: {"Event.Conn"}, api.Bytes: {"Event.Conn", "Event.Data"},
		}[s.Event.Kind]
	case api.StepPacket:
		l := map[int][]string{
			api.Connect: {"Level", "KeepAlive", "Client", "Clean", "HasWill", "HasUser", "HasPass"},
			api.Connack: {"Code", "Present"},
			api.Publish: {"Msg.Topic", "Msg.Payload", "Msg.QoS", "Msg.Retain", "Dup", "ID"},
			api.Puback:  {"ID"}, api.Pubrec: {"ID"}, api.Pubrel: {"ID"}, api.Pubcomp: {"ID"}, api.Unsuback: {"ID"},
			api.Subscribe: {"ID", "Asks"}, api.Suback: {"ID", "Codes"}, api.Unsubscribe: {"ID", "Filters"},
		}[s.Packet.Kind]
		if s.Packet.HasWill {
			l = append(l, "Will.Topic", "Will.Payload", "Will.QoS", "Will.Retain")
		}
		if s.Packet.HasUser {
			l = append(l, "User")
		}
		if s.Packet.HasPass {
			l = append(l, "Pass")
		}
		out := []string{"Conn"}
		for _, name := range l {
			out = append(out, "Packet."+name)
		}
		return out
	case api.StepMove:
		l := map[int][]string{
			api.MovePublish:   {"Move.Msg.Topic", "Move.Msg.Payload", "Move.Msg.QoS", "Move.Msg.Retain"},
			api.MoveSubscribe: {"Move.Asks"}, api.MoveUnsubscribe: {"Move.Filters"},
			api.MoveIn: {"Move.N"}, api.MoveOut: {"Move.N"},
		}[s.Move.Kind]
		if s.Move.Kind <= api.MoveOut {
			l = append(l, "Move.Client")
		}
		return l
	case api.StepGot:
		return []string{"Client"}
	}
	return nil
}

// TestPrintFields: a field that the line doesn't name must be zero; one that it names may be anything, and is told (P20.8).
func TestPrintFields(t *testing.T) {
	count := 0
	for _, x := range samples() {
		named := namedFields(x.step)
		leaves(reflect.ValueOf(x.step), "", func(path string, _ reflect.Value) {
			s := x.step
			field := reflect.ValueOf(&s).Elem()
			for name := range strings.SplitSeq(path, ".") {
				field = field.FieldByName(name)
			}
			stir(field)
			name := path[strings.LastIndex(path, ".")+1:]
			switch {
			case name == "Kind": // of an unlike kind, or of one without these fields: TestPrintKinds
			case slices.Contains([]string{"HasWill", "HasUser", "HasPass"}, name) && slices.Contains(named, path):
				thing := map[string]bool{"HasWill": s.Packet.Will.Topic != "" || len(s.Packet.Will.Payload) > 0 || s.Packet.Will.QoS != 0 || s.Packet.Will.Retain, "HasUser": s.Packet.User != "", "HasPass": len(s.Packet.Pass) > 0}[name]
				if field.Bool() || !thing {
					roundTrip(t, s)
				} else {
					noText(t, x.line+" without "+path, []api.Step{s}, 0)
				}
			case slices.Contains(named, path):
				roundTrip(t, s)
			default:
				noText(t, x.line+" with "+path, []api.Step{event(api.Tick, 0, ""), s}, 1)
			}
			count++
		})
	}
	if count < 55*40 {
		t.Errorf("the test tells little: %d", count)
	}
}

// roundTrip holds that a step has just the text that the tables tell, and is read from it.
func roundTrip(t *testing.T, s api.Step) {
	t.Helper()
	text, err := script.Print([]api.Step{s})
	if err != nil || text != textOf([]api.Step{s}) {
		t.Errorf("P20.8: %+v: %q, %v", s, text, err)
		return
	}
	if l := parsed(t, text); !same(l, []api.Step{s}) {
		t.Errorf("P20.11: %q: %+v", text, l)
	}
}

// TestPrintKinds: all kinds together, those that there are and others (P20.8).
func TestPrintKinds(t *testing.T) {
	around := func(most int) []int {
		l := []int{math.MinInt, -1}
		for i := range most + 3 {
			l = append(l, i)
		}
		return append(l, math.MaxInt)
	}
	texts := map[string]string{}
	for _, kind := range around(api.StepGot) {
		for _, event := range around(api.Tick) {
			for _, packet := range around(api.Disconnect) {
				for _, move := range around(api.MoveRest) {
					s := api.Step{Kind: kind, Event: api.Event{Kind: event}, Packet: api.Packet{Kind: packet}, Move: api.Move{Kind: move}}
					own := map[int]int{api.StepEvent: event, api.StepPacket: packet, api.StepMove: move, api.StepShow: 1, api.StepGot: 1}[kind]
					most := map[int]int{api.StepEvent: api.Tick, api.StepPacket: api.Disconnect, api.StepMove: api.MoveRest, api.StepShow: 1, api.StepGot: 1}[kind]
					clear := (event == 0 || kind == api.StepEvent) && (packet == 0 || kind == api.StepPacket) && (move == 0 || kind == api.StepMove)
					if clear && own >= 1 && own <= most {
						roundTrip(t, s)
						texts[textOf([]api.Step{s})] = ""
					} else if text, err := script.Print([]api.Step{s}); text != "" || fault(err) != at(api.ErrScriptPrint, 0) {
						t.Fatalf("P20.8: %+v: %q, %s", s, text, fault(err))
					}
				}
			}
		}
	}
	if len(texts) != 4+14+12+2 {
		t.Errorf("P20.8: %d texts", len(texts))
	}
}

// TestPrintNumbers: numbers at their bounds and one beyond, in each place (P20.8).
func TestPrintNumbers(t *testing.T) {
	places := func(n int) []api.Step {
		return []api.Step{
			event(api.Open, n, ""), event(api.Close, n, ""), event(api.Bytes, n, "x"),
			send(n, api.Packet{Kind: api.Pingreq}),
			send(1, api.Packet{Kind: api.Connect, Level: n}),
			send(1, api.Packet{Kind: api.Connect, KeepAlive: n}),
			send(1, api.Packet{Kind: api.Connect, HasWill: true, Will: msg("", "", n, false)}),
			send(1, api.Packet{Kind: api.Connack, Code: n}),
			send(1, api.Packet{Kind: api.Publish, Msg: msg("t", "", n, false)}),
			send(1, api.Packet{Kind: api.Publish, Msg: msg("t", "", 1, false), ID: n}),
			send(1, api.Packet{Kind: api.Pubrel, ID: n}),
			send(1, api.Packet{Kind: api.Subscribe, ID: n}),
			send(1, api.Packet{Kind: api.Subscribe, ID: 1, Asks: []api.Ask{{}, {Filter: "a", QoS: n}}}),
			send(1, api.Packet{Kind: api.Suback, ID: n}),
			send(1, api.Packet{Kind: api.Suback, Codes: []int{1, n}}),
			send(1, api.Packet{Kind: api.Unsubscribe, ID: n}),
			move(api.Move{Kind: api.MoveFade, Client: n}),
			move(api.Move{Kind: api.MovePublish, Client: n}),
			move(api.Move{Kind: api.MovePublish, Msg: msg("", "", n, true)}),
			move(api.Move{Kind: api.MoveSubscribe, Client: n}),
			move(api.Move{Kind: api.MoveSubscribe, Asks: []api.Ask{{QoS: n}, {}}}),
			move(api.Move{Kind: api.MoveUnsubscribe, Client: n}),
			move(api.Move{Kind: api.MoveIn, Client: n}),
			move(api.Move{Kind: api.MoveOut, N: n}),
			{Kind: api.StepGot, Client: n},
		}
	}
	for _, n := range []int{0, 1, -1, 9, 10, 65536, 1<<40 - 1, 1 << 40, -1 << 40} {
		for _, s := range places(n) {
			roundTrip(t, s)
		}
	}
	for _, n := range []int{1<<40 + 1, -1<<40 - 1, math.MaxInt, math.MinInt} {
		for i, s := range places(n) {
			noText(t, fmt.Sprintf("%d in place %d", n, i), []api.Step{event(api.Tick, 0, ""), s, event(api.Tick, 0, ""), {}}, 1)
		}
	}
}

// TestPrintTexts: each byte in each place of a text (P20.8).
func TestPrintTexts(t *testing.T) {
	for i := range 256 {
		c := "<" + string([]byte{byte(i)}) + ">"
		for _, s := range []api.Step{
			event(api.Bytes, 1, c),
			send(1, api.Packet{Kind: api.Connect, Client: c, HasWill: true, Will: msg(c, c, 0, true), HasUser: true, User: c, HasPass: true, Pass: []byte(c)}),
			send(1, api.Packet{Kind: api.Publish, Msg: msg(c, c, 0, false)}),
			send(1, api.Packet{Kind: api.Subscribe, Asks: []api.Ask{{Filter: c}, {Filter: c}}}),
			send(1, api.Packet{Kind: api.Unsubscribe, Filters: []string{c, "", c}}),
			move(api.Move{Kind: api.MovePublish, Msg: msg(c, c, 0, false)}),
			move(api.Move{Kind: api.MoveSubscribe, Asks: []api.Ask{{Filter: c}, {Filter: c}}}),
			move(api.Move{Kind: api.MoveUnsubscribe, Filters: []string{c, c}}),
		} {
			roundTrip(t, s)
		}
	}
	want := "bytes 1 \" !#$%&'()*+,-./09:;<=>?@AZ[]^_`az{|}~\\\"\\\\\\x00\\x1f\\x7f\\x80\\xff\\x0a\\x09\"\n"
	if got := printed(t, []api.Step{event(api.Bytes, 1, " !#$%&'()*+,-./09:;<=>?@AZ[]^_`az{|}~\"\\\x00\x1f\x7f\x80\xff\n\t")}); got != want {
		t.Errorf("P20.8: %s; want %s", got, want)
	}
}

// TestPrintBounds: as many steps as may be, and a text as long as may be; and one more (P20.8, P20.9).
func TestPrintBounds(t *testing.T) {
	tick := event(api.Tick, 0, "")
	if text := printed(t, nil); text != "" {
		t.Errorf("P20.9: of no steps: %q", text)
	}
	l := slices.Repeat([]api.Step{tick}, 4002)
	if text := printed(t, l[:4000]); text != strings.Repeat("tick\n", 4000) {
		t.Errorf("P20.9: %d bytes", len(text))
	}
	noText(t, "4001 steps", l[:4001], 4000)
	noText(t, "4002 steps", l, 4000)
	l[3999] = api.Step{}
	noText(t, "4002 steps, one of no kind", l, 3999)
	l[3999] = event(api.Bytes, 1, strings.Repeat("x", 65536-3999*5-11))
	if text := printed(t, l[:4000]); len(text) != 65536 {
		t.Errorf("P20.9: %d bytes", len(text))
	}
	noText(t, "65536 bytes, and a step more", l, 4000)
	l[3999] = event(api.Bytes, 1, strings.Repeat("x", 65536-3999*5-10))
	noText(t, "65537 bytes", l, 3999)
	l[0] = event(api.Open, 12, "") // seven bytes in the place of five
	noText(t, "65539 bytes", l, 3999)

	for name, s := range map[string]func(n int) api.Step{
		"bytes":  func(n int) api.Step { return event(api.Bytes, 1, strings.Repeat("x", n)) },
		"escape": func(n int) api.Step { return event(api.Bytes, 1, strings.Repeat("\x00", n/4)+strings.Repeat("x", n%4)) },
		"double": func(n int) api.Step { return event(api.Bytes, 1, strings.Repeat("\"", n/2)+strings.Repeat("x", n%2)) },
		"client": func(n int) api.Step { return send(1, api.Packet{Kind: api.Connect, Client: strings.Repeat("x", n)}) },
		"filter": func(n int) api.Step {
			return move(api.Move{Kind: api.MoveUnsubscribe, Filters: []string{"", strings.Repeat("x", n)}})
		},
	} {
		room := 65536 - len(printed(t, []api.Step{s(0)}))
		if text := printed(t, []api.Step{s(room)}); len(text) != 65536 || text != textOf([]api.Step{s(room)}) {
			t.Errorf("P20.9: %s: %d bytes", name, len(text))
		}
		noText(t, name, []api.Step{s(room + 1), tick}, 0)
		noText(t, name, []api.Step{s(room), tick}, 1)
		noText(t, name+", far too long", []api.Step{tick, s(1 << 22)}, 1)
		noText(t, name+", behind one of no kind", []api.Step{tick, {}, s(1 << 22)}, 1)
	}
	asks := move(api.Move{Kind: api.MoveSubscribe, Asks: make([]api.Ask, 100000)})
	noText(t, "many filters", []api.Step{asks}, 0)
	codes := send(1, api.Packet{Kind: api.Suback, Codes: make([]int, 32760)})
	if text := printed(t, []api.Step{codes}); len(text) != 65536 {
		t.Errorf("P20.9: %d bytes", len(text))
	}
	codes.Packet.Codes = append(codes.Packet.Codes, 0)
	noText(t, "many codes", []api.Step{codes}, 0)
}

// TestPrintUnlessLong: what Parse reads Print writes, unless that text is too long (P20.11).
func TestPrintUnlessLong(t *testing.T) {
	for _, text := range []string{
		repeated(1000, "tick\ntick\ntick\ntick\n"),
		repeated(1000, "bytes 1 \""+strings.Repeat("x", 53)+"\"\n"),
		repeated(1000, "bytes 1 \""+strings.Repeat("x", 55)+"\"\n"),
		repeated(1000, "bytes 1 \""+strings.Repeat("x", 4000)+"\"\n"),
		repeated(7, "unsubscribe 1 "+strings.Repeat("\"\"", 3116)+"\n"),
		repeated(7, "unsubscribe 1 "+strings.Repeat("\"\"", 3120)+"\n"),
	} {
		l := parsed(t, text)
		long, place := 0, -1
		for i, s := range l {
			if long += len(thingsOf(s).line()) + 1; long > 65536 && place < 0 {
				place = i
			}
		}
		if place < 0 {
			if got := printed(t, l); got != textOf(l) || !same(parsed(t, got), l) {
				t.Errorf("P20.11: %.50q: %d bytes", text, len(got))
			}
		} else {
			noText(t, text[:50], l, place)
		}
	}
}

// TestSomePrints: some steps, of which some have no text: the first of them is told (P20.9).
func TestSomePrints(t *testing.T) {
	r := rand.New(rand.NewSource(209))
	for range 2000 {
		l := someSteps(r, r.Intn(12))
		first := -1
		for i := range l {
			if r.Intn(12) > 0 {
				continue
			}
			switch s := &l[i]; r.Intn(4) {
			case 0:
				s.Kind = someOf(r, 0, -1, 6)
			case 1:
				s.Event.Conn, s.Move.N = 1<<40+1, -1<<40-1
			case 2:
				s.Packet.Code, s.Packet.Level = 1, 1
			default:
				s.Move.Msg.Retain, s.Event.Data = true, []byte{0}
			}
			if first < 0 {
				first = i
			}
		}
		if first >= 0 {
			noText(t, fmt.Sprintf("%+v", l[first]), l, first)
			l = l[:first]
		}
		if text := printed(t, l); text != textOf(l) || !same(parsed(t, text), l) {
			t.Fatalf("P20.11: %q; want %q", text, textOf(l))
		}
	}
}
