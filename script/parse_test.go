package script_test

import (
	"fmt"
	"math/rand"
	"strings"
	"testing"

	"crier/api"
	"crier/script"
)

func event(kind, conn int, data string) api.Step {
	return api.Step{Kind: api.StepEvent, Event: api.Event{Kind: kind, Conn: conn, Data: []byte(data)}}
}

func send(conn int, p api.Packet) api.Step {
	return api.Step{Kind: api.StepPacket, Conn: conn, Packet: p}
}

func move(m api.Move) api.Step { return api.Step{Kind: api.StepMove, Move: m} }

func msg(topic, payload string, qos int, retain bool) api.Message {
	return api.Message{Topic: topic, Payload: []byte(payload), QoS: qos, Retain: retain}
}

// sample: a line in the one form, and its step.
type sample struct {
	line string
	step api.Step
}

// samples tells all rows of the tables of P20.5, with all that may be left out.
func samples() []sample {
	return []sample{
		{`open 1`, event(api.Open, 1, "")},
		{`close -2`, event(api.Close, -2, "")},
		{`bytes 3 "a\x00b"`, event(api.Bytes, 3, "a\x00b")},
		{`bytes 0 ""`, event(api.Bytes, 0, "")},
		{`tick`, event(api.Tick, 0, "")},
		{`up 1`, move(api.Move{Kind: api.MoveUp, Client: 1})},
		{`cut 2`, move(api.Move{Kind: api.MoveCut, Client: 2})},
		{`fade 3`, move(api.Move{Kind: api.MoveFade, Client: 3})},
		{`leave 4`, move(api.Move{Kind: api.MoveLeave, Client: 4})},
		{`publish 5 "t" "p" 1`, move(api.Move{Kind: api.MovePublish, Client: 5, Msg: msg("t", "p", 1, false)})},
		{`publish 5 "" "" -1 retain`, move(api.Move{Kind: api.MovePublish, Client: 5, Msg: msg("", "", -1, true)})},
		{`subscribe 6`, move(api.Move{Kind: api.MoveSubscribe, Client: 6})},
		{`subscribe 6 "a" 1`, move(api.Move{Kind: api.MoveSubscribe, Client: 6, Asks: []api.Ask{{Filter: "a", QoS: 1}}})},
		{`subscribe 6 "a" 1 "" 0 "a" 9`, move(api.Move{Kind: api.MoveSubscribe, Client: 6, Asks: []api.Ask{{Filter: "a", QoS: 1}, {}, {Filter: "a", QoS: 9}}})},
		{`unsubscribe 7`, move(api.Move{Kind: api.MoveUnsubscribe, Client: 7})},
		{`unsubscribe 7 "a" "" "#"`, move(api.Move{Kind: api.MoveUnsubscribe, Client: 7, Filters: []string{"a", "", "#"}})},
		{`in 8 9`, move(api.Move{Kind: api.MoveIn, Client: 8, N: 9})},
		{`out 9 -10`, move(api.Move{Kind: api.MoveOut, Client: 9, N: -10})},
		{`second`, move(api.Move{Kind: api.MoveTick})},
		{`reboot`, move(api.Move{Kind: api.MoveReboot})},
		{`rest`, move(api.Move{Kind: api.MoveRest})},
		{`show`, api.Step{Kind: api.StepShow}},
		{`got 11`, api.Step{Kind: api.StepGot, Client: 11}},
		{`send 1 connect 4 60 "c"`, send(1, api.Packet{Kind: api.Connect, Level: 4, KeepAlive: 60, Client: "c"})},
		{`send 1 connect -4 -60 "" clean`, send(1, api.Packet{Kind: api.Connect, Level: -4, KeepAlive: -60, Clean: true})},
		{`send 1 connect 0 0 "" will "w" "p" 2`, send(1, api.Packet{Kind: api.Connect, HasWill: true, Will: msg("w", "p", 2, false)})},
		{`send 1 connect 0 0 "" will "" "" 0 retain`, send(1, api.Packet{Kind: api.Connect, HasWill: true, Will: msg("", "", 0, true)})},
		{`send 1 connect 0 0 "" will "" "" 0`, send(1, api.Packet{Kind: api.Connect, HasWill: true})},
		{`send 1 connect 0 0 "" user "u"`, send(1, api.Packet{Kind: api.Connect, HasUser: true, User: "u"})},
		{`send 1 connect 0 0 "" user ""`, send(1, api.Packet{Kind: api.Connect, HasUser: true})},
		{`send 1 connect 0 0 "" pass "p\xff"`, send(1, api.Packet{Kind: api.Connect, HasPass: true, Pass: []byte("p\xff")})},
		{`send 1 connect 0 0 "" pass ""`, send(1, api.Packet{Kind: api.Connect, HasPass: true})},
		{`send 1 connect 4 5 "c" clean will "w" "p" 1 retain user "u" pass "p"`, send(1, api.Packet{Kind: api.Connect, Level: 4, KeepAlive: 5, Client: "c", Clean: true, HasWill: true, Will: msg("w", "p", 1, true), HasUser: true, User: "u", HasPass: true, Pass: []byte("p")})},
		{`send 1 connect 4 5 "c" will "w" "p" 1 pass "p"`, send(1, api.Packet{Kind: api.Connect, Level: 4, KeepAlive: 5, Client: "c", HasWill: true, Will: msg("w", "p", 1, false), HasPass: true, Pass: []byte("p")})},
		{`send 2 connack 5`, send(2, api.Packet{Kind: api.Connack, Code: 5})},
		{`send 2 connack 0 present`, send(2, api.Packet{Kind: api.Connack, Present: true})},
		{`send 3 publish "t" "p" 0`, send(3, api.Packet{Kind: api.Publish, Msg: msg("t", "p", 0, false)})},
		{`send 3 publish "t" "p" 1 retain`, send(3, api.Packet{Kind: api.Publish, Msg: msg("t", "p", 1, true)})},
		{`send 3 publish "t" "p" 1 dup`, send(3, api.Packet{Kind: api.Publish, Msg: msg("t", "p", 1, false), Dup: true})},
		{`send 3 publish "t" "p" 1 id 7`, send(3, api.Packet{Kind: api.Publish, Msg: msg("t", "p", 1, false), ID: 7})},
		{`send 3 publish "" "" 0 retain dup id -7`, send(3, api.Packet{Kind: api.Publish, Msg: msg("", "", 0, true), Dup: true, ID: -7})},
		{`send 4 puback 1`, send(4, api.Packet{Kind: api.Puback, ID: 1})},
		{`send 4 pubrec 2`, send(4, api.Packet{Kind: api.Pubrec, ID: 2})},
		{`send 4 pubrel 3`, send(4, api.Packet{Kind: api.Pubrel, ID: 3})},
		{`send 4 pubcomp 4`, send(4, api.Packet{Kind: api.Pubcomp, ID: 4})},
		{`send 4 unsuback 0`, send(4, api.Packet{Kind: api.Unsuback})},
		{`send 5 subscribe 1`, send(5, api.Packet{Kind: api.Subscribe, ID: 1})},
		{`send 5 subscribe 1 "a" 2 "b" -1`, send(5, api.Packet{Kind: api.Subscribe, ID: 1, Asks: []api.Ask{{Filter: "a", QoS: 2}, {Filter: "b", QoS: -1}}})},
		{`send 6 suback 1`, send(6, api.Packet{Kind: api.Suback, ID: 1})},
		{`send 6 suback 1 0 128 -1`, send(6, api.Packet{Kind: api.Suback, ID: 1, Codes: []int{0, 128, -1}})},
		{`send 7 unsubscribe 1`, send(7, api.Packet{Kind: api.Unsubscribe, ID: 1})},
		{`send 7 unsubscribe 1 "a" "b"`, send(7, api.Packet{Kind: api.Unsubscribe, ID: 1, Filters: []string{"a", "b"}})},
		{`send 8 pingreq`, send(8, api.Packet{Kind: api.Pingreq})},
		{`send 8 pingresp`, send(8, api.Packet{Kind: api.Pingresp})},
		{`send -8 disconnect`, send(-8, api.Packet{Kind: api.Disconnect})},
	}
}

// TestSteps: each row of the tables, alone and all together (P20.5, P20.7, P20.8).
func TestSteps(t *testing.T) {
	var all []api.Step
	whole := ""
	for _, x := range samples() {
		if l, err := script.Parse(x.line); err != nil || !same(l, []api.Step{x.step}) {
			t.Errorf("P20.5: %s: %+v, %v", x.line, l, err)
		}
		if text, err := script.Print([]api.Step{x.step}); err != nil || text != x.line+"\n" {
			t.Errorf("P20.8: %s: %q, %v", x.line, text, err)
		}
		all = append(all, x.step)
		whole += x.line + "\n"
	}
	if l, err := script.Parse(whole); err != nil || !same(l, all) {
		t.Errorf("P20.7: %+v, %v", l, err)
	}
	if text, err := script.Print(all); err != nil || text != whole {
		t.Errorf("P20.8: %s, %v", text, err)
	}
	reads(t, "P20.5", `send 3 publish "t" "p" 1 id 0`, "send 3 publish \"t\" \"p\" 1\n")
}

// TestLinesSpoilt: each row broken off behind each word, with each word in another one's place, without one, with one more (P20.3, P20.5).
func TestLinesSpoilt(t *testing.T) {
	others := []string{"x", "0", "-1", "01", "1099511627777", `"a"`, `"`, `"\q"`, "retain", "dup", "id", "clean", "will", "user", "pass", "present", "open", "publish", "repeat", "end"}
	for _, x := range samples() {
		words := strings.Split(x.line, " ")
		for n := range len(words) + 1 {
			holdsModel(t, strings.Join(words[:n], " "))
			if n < len(words) {
				holdsModel(t, strings.Join(append(append([]string(nil), words[:n]...), words[n+1:]...), " "))
			}
			for _, other := range others {
				ahead := append(append([]string(nil), words[:n]...), other)
				holdsModel(t, strings.Join(append(ahead, words[n:]...), " "))
				if n < len(words) {
					holdsModel(t, strings.Join(append(ahead, words[n+1:]...), " "))
				}
			}
		}
	}
}

// holdsModel holds Parse against the model.
func holdsModel(t *testing.T, text string) string {
	t.Helper()
	lines, want := modelParse(text)
	l, err := script.Parse(text)
	if fault(err) != want || len(l) != len(lines) {
		t.Fatalf("P20.5: %.2000q: %s, %d steps; want %s, %d", text, fault(err), len(l), want, len(lines))
	}
	whole := strings.Join(append(lines, ""), "\n")
	if got, err := script.Print(l); err == nil && got != whole || err != nil && len(whole) <= 65536 {
		t.Fatalf("P20.11: %.2000q: %.2000q, %v; want %.2000q", text, got, err, whole)
	}
	return want
}

// TestRepeat: what is done so often, and what can't be (P20.5).
func TestRepeat(t *testing.T) {
	for text, want := range map[string]string{
		"repeat 1\nend":                                         "",
		"repeat 1000\n\n# x\nend\n":                             "",
		"repeat 1\ntick\nend":                                   "tick\n",
		"repeat 3\ntick\nend":                                   "tick\ntick\ntick\n",
		"up 1\nrepeat 2 # x\n open 1 \n\n#\ntick\n\tend":        "up 1\nopen 1\ntick\nopen 1\ntick\n",
		"repeat 2\nup 1\nend\ncut 2\nrepeat 2\nup 3\nend\nup 4": "up 1\nup 1\ncut 2\nup 3\nup 3\nup 4\n",
		"repeat 1\nend\nrepeat 2\nend\nrepeat 2\ntick\nend":     "tick\ntick\n",
	} {
		reads(t, "P20.5", text, want)
	}
	for text, want := range map[string]string{
		"repeat":                              at(api.ErrScriptEnd, 6),
		"repeat\nend":                         at(api.ErrScriptEnd, 6),
		"repeat x":                            at(api.ErrScriptNumber, 7),
		"repeat 0\nend":                       at(api.ErrScriptNumber, 7),
		"repeat -1\nend":                      at(api.ErrScriptNumber, 7),
		"repeat 1001\nend":                    at(api.ErrScriptNumber, 7),
		"repeat 1099511627776\nend":           at(api.ErrScriptNumber, 7),
		"repeat 0 x":                          at(api.ErrScriptNumber, 7),
		"repeat 1 x":                          at(api.ErrScriptWord, 9),
		"repeat 1 2":                          at(api.ErrScriptWord, 9),
		"repeat 1 end":                        at(api.ErrScriptWord, 9),
		"end":                                 at(api.ErrScriptWord, 0),
		"end x":                               at(api.ErrScriptWord, 0),
		" end 1":                              at(api.ErrScriptWord, 1),
		"tick\nend":                           at(api.ErrScriptWord, 5),
		"repeat 2\ntick\nend\nend":            at(api.ErrScriptWord, 18),
		"repeat 2\nend x":                     at(api.ErrScriptWord, 13),
		"repeat 2\nend end":                   at(api.ErrScriptWord, 13),
		"repeat 2\nrepeat 2\nend\nend":        at(api.ErrScriptWord, 9),
		"repeat 2\nrepeat":                    at(api.ErrScriptWord, 9),
		"repeat 2\nrepeat x":                  at(api.ErrScriptWord, 9),
		"repeat 2\nrepeat 0 \"":               at(api.ErrScriptWord, 9),
		"repeat 2\ntick\n repeat 2\nend\nend": at(api.ErrScriptWord, 15),
		"repeat 2":                            at(api.ErrScriptEnd, 8),
		"repeat 2\n":                          at(api.ErrScriptEnd, 9),
		"repeat 2\ntick\n # end":              at(api.ErrScriptEnd, 20),
		"repeat 2\nend\nrepeat 3\n\n\n":       at(api.ErrScriptEnd, 24),
		"repeat 2\nopen x\nend":               at(api.ErrScriptNumber, 14),
		"repeat 2\nopen x":                    at(api.ErrScriptNumber, 14),
		"\"repeat\" 2\nend":                   at(api.ErrScriptWord, 0),
		"Repeat 2\nend":                       at(api.ErrScriptWord, 0),
		"repeat2\nend":                        at(api.ErrScriptWord, 0),
	} {
		refused(t, "P20.5", text, want)
	}
}

// TestParseLong: MaxScript bytes, and one more (P20.5).
func TestParseLong(t *testing.T) {
	for _, text := range []string{"tick\n#", "", "go", "repeat 2\n", "open "} {
		filled := text + strings.Repeat(" ", 65536-len(text))
		_, want := modelParse(filled)
		if _, err := script.Parse(filled); fault(err) != want {
			t.Errorf("P20.5: %q in 65536 bytes: %s; want %s", text, fault(err), want)
		}
		refused(t, "P20.5", filled+" ", at(api.ErrScriptLong, 0))
	}
	refused(t, "P20.5", strings.Repeat("\n", 65537), at(api.ErrScriptLong, 0))
	refused(t, "P20.5", "\""+strings.Repeat("x", 1<<20), at(api.ErrScriptLong, 0))
}

// repeated tells a repeat of so many times.
func repeated(times int, body string) string { return fmt.Sprintf("repeat %d\n%send\n", times, body) }

// TestMany: MaxSteps steps, and one more (P20.6).
func TestMany(t *testing.T) {
	ticks := func(n int) string { return strings.Repeat("tick\n", n) }
	full := repeated(1000, ticks(4))
	for _, x := range []struct {
		text, more string // more: where the fault is; "nil": there is none, "204": the end is missing
		e          api.Errno
	}{
		{ticks(4000), "", 0},
		{ticks(4000), "tick", api.ErrScriptMany},
		{ticks(3999), "", 0},
		{full, "", 0},
		{full, "tick", api.ErrScriptMany},
		{full, " \ttick x y", api.ErrScriptMany},
		{full, "open", api.ErrScriptMany},
		{full, "open \"", api.ErrScriptMany},
		{full, "send 1 go", api.ErrScriptMany},
		{full, "bytes 1 \"\\q\"", api.ErrScriptMany},
		{full, "go", api.ErrScriptWord},
		{full, "\"", api.ErrScriptWord},
		{full, "\"tick\"", api.ErrScriptWord},
		{full, "1", api.ErrScriptWord},
		{full, "end", api.ErrScriptWord},
		{full, repeated(1000, ""), 0},
		{full, "# tick\n \n", 0},
		{full + "repeat 1\n", "tick", api.ErrScriptMany},
		{full + "repeat 1\n", "repeat 1", api.ErrScriptWord},
		{full + "repeat 1000\n", "end x\n", 0},
		{ticks(3999) + "repeat 1\ntick\n", "end", 0},
		{ticks(3999) + "repeat 1\ntick\n", "tick x", api.ErrScriptMany},
		{ticks(3999) + "repeat 2\ntick\n", "end", api.ErrScriptMany},
		{ticks(3999) + "repeat 2\ntick\n", "end x", api.ErrScriptMany},
		{ticks(3999) + "repeat 2\ntick\n", "\tend \"", api.ErrScriptMany},
		{ticks(3999) + "repeat 2\ntick\n", "tick", api.ErrScriptMany},
		{ticks(3000) + "repeat 1000\ntick\n", "end", 0},
		{ticks(3001) + "repeat 1000\ntick\n", "end", api.ErrScriptMany},
		{"repeat 1000\n" + ticks(5), "end", api.ErrScriptMany},
		{"repeat 1000\n" + ticks(4000), "end", api.ErrScriptMany},
		{"repeat 1000\n" + ticks(4000), "tick", api.ErrScriptMany},
		{"repeat 1\n" + ticks(4000), "end", 0},
		{"repeat 1\n" + ticks(4000), "tick", api.ErrScriptMany},
		{repeated(500, ticks(4)) + "repeat 500\n" + ticks(4), "end", 0},
		{repeated(500, ticks(4)) + "repeat 500\n" + ticks(4), "tick\nend", 0},
		{repeated(500, ticks(4)) + "repeat 500\n" + ticks(5), "end", api.ErrScriptMany},
	} {
		want := holdsModel(t, x.text+x.more)
		if x.e != 0 {
			blank := len(x.more) - len(strings.TrimLeft(x.more, " \t"))
			if own := at(x.e, len(x.text)+blank); want != own {
				t.Errorf("P20.6: %q behind %d bytes: %s; want %s", x.more, len(x.text), want, own)
			}
		}
	}
}

// TestContent: MaxContent bytes, and one more (P20.6).
func TestContent(t *testing.T) {
	const bound = 1 << 22
	payload := func(n int) string { return strings.Repeat("w", n) }
	lines := map[string]func(n int) string{
		"bytes":  func(n int) string { return `bytes 1 "` + payload(n) + "\"\n" },
		"move":   func(n int) string { return `publish 1 "topic" "` + payload(n) + "\" 0\n" },
		"packet": func(n int) string { return `send 1 publish "topic" "` + payload(n) + "\" 0 retain\n" },
		"will": func(n int) string {
			return `send 1 connect 4 0 "client" will "topic" "` + payload(n) + "\" 0 user \"u\" pass \"p\"\n"
		},
		"escapes": func(n int) string { return `bytes 1 "` + strings.Repeat(`\x00`, n) + "\"\n" },
	}
	for name, line := range lines {
		ahead := repeated(1000, line(4194)) // 304 are left
		for _, x := range []struct {
			text, more string
			e          api.Errno
		}{
			{ahead, line(304), 0},
			{ahead, line(305), api.ErrScriptLong},
			{ahead, " " + strings.TrimSpace(line(305)) + " x", 0}, // the line's other fault is ahead of it
			{ahead + line(304), "bytes 1 \"\"\ntick\nunsubscribe 1 \"abc\"\nsend 1 connect 1 1 \"abc\" pass \"abc\"", 0},
			{ahead + line(304), line(1), api.ErrScriptLong},
			{ahead + line(304), "repeat 1000\ntick\nend", 0},
			{ahead + line(304) + "repeat 2\n", line(1), api.ErrScriptLong},
			{ahead + line(303) + "repeat 1\n", line(1) + "end", 0},
			{ahead + line(303) + "repeat 2\n" + line(1), "end x", api.ErrScriptLong},
			{ahead + line(303) + "repeat 2\n" + line(1), "\tend", api.ErrScriptLong},
			{ahead + line(302) + "repeat 2\n" + line(1), "end", 0},
			{"repeat 1000\n" + line(4195), "end x", api.ErrScriptLong},
			{"repeat 1000\n" + line(4194), "end", 0},
			{"repeat 1000\n" + line(4000) + line(194), "end", 0},
			{"repeat 1000\n" + line(4000) + line(195), "end", api.ErrScriptLong},
			{"repeat 1000\n" + line(4195) + strings.Repeat("tick\n", 4), "end", api.ErrScriptMany},
		} {
			want := holdsModel(t, x.text+x.more)
			blank := len(x.more) - len(strings.TrimLeft(x.more, " \t"))
			if own := at(x.e, len(x.text)+blank); x.e != 0 && want != own {
				t.Errorf("P20.6: %s: %.50q behind %d bytes: %s; want %s", name, x.more, len(x.text), want, own)
			}
		}
		if _, err := script.Parse(ahead + line(304)); err != nil {
			t.Errorf("P20.6: %s: %d bytes: %v", name, bound, err)
		}
	}
}

// spoilt tells a text in which a little is changed.
func spoilt(r *rand.Rand, text string) string {
	for range someOf(r, 1, 1, 1, 2, 3) {
		i := r.Intn(len(text) + 1)
		j := min(len(text), i+someOf(r, 0, 0, 1, 1, 2, 5, 9))
		text = text[:i] + someOf(r, "", "", " ", "\t", "\n", "\"", "\\", "#", "0", "1", "-", "x", "\x00", "\xFF", " end\n", "\nend\n", "\nrepeat 2\n", " retain ", " dup", " id ", " \"\" ", "client", "\\x4", "a") + text[j:]
	}
	return text
}

// TestSomeScripts: steps in any form are read as just these, in repeats too; a text that was spoilt has the model's fault (P20.5, P20.7, P20.11).
func TestSomeScripts(t *testing.T) {
	r := rand.New(rand.NewSource(205))
	seen := map[string]int{}
	for range 6000 {
		var want []api.Step
		text := ""
		for range r.Intn(5) {
			l := someSteps(r, r.Intn(4))
			body := ""
			for _, s := range l {
				body += someOf(r, "", "", "\n", " \t\n", "# x\n") + thingsOf(s).loose(r) + "\n"
			}
			times := 1
			if r.Intn(3) == 0 {
				times = 1 + r.Intn(4)
				text += things{}.word("repeat").number(times).loose(r) + "\n" + body + things{}.word("end").loose(r) + "\n"
			} else {
				text += body
			}
			for range times {
				want = append(want, l...)
			}
		}
		if r.Intn(2) == 0 {
			text = strings.TrimSuffix(text, "\n")
		}
		if l := parsed(t, text); !same(l, want) {
			t.Fatalf("P20.7: %q: %+v; want %+v", text, l, want)
		}
		if got := printed(t, want); got != textOf(want) {
			t.Fatalf("P20.8: %q; want %q", got, textOf(want))
		}
		holdsModel(t, text)
		for range 3 {
			seen[strings.Fields(holdsModel(t, spoilt(r, text)))[0]]++
		}
	}
	for _, e := range []string{"nil", "200", "201", "204"} {
		if seen[e] < 200 {
			t.Errorf("the test tells little: %v", seen)
		}
	}
}

// TestSomeBounds: scripts about as long as may be (P20.6).
func TestSomeBounds(t *testing.T) {
	r := rand.New(rand.NewSource(206))
	seen := map[string]int{}
	for range 400 {
		text := ""
		for range 1 + r.Intn(4) {
			body := ""
			for range r.Intn(4) {
				contents := strings.Repeat("x", someOf(r, 0, 1, 100, 4000, 4400))
				body += someOf(r, "tick", "open 1", "bytes 1 \""+contents+"\"", "publish 1 \"t\" \""+contents+"\" 1", "tick\ntick") + "\n"
				if r.Intn(10) == 0 {
					body += someOf(r, "got x\n", "show x\n")
				}
			}
			if r.Intn(3) > 0 {
				text += fmt.Sprintf("repeat %d\n%send%s\n", someOf(r, 1, 2, 300, 500, 900, 1000), body, someOf(r, "", "", "", " x"))
			} else {
				text += body
			}
		}
		seen[strings.Fields(holdsModel(t, text))[0]]++
	}
	for _, e := range []string{"nil", "200", "201", "202", "203"} {
		if seen[e] < 5 {
			t.Errorf("the test tells little: %v", seen)
		}
	}
}

// TestLinesBehind: what stands on lines behind the faulty one doesn't bear on its fault (P20.12).
func TestLinesBehind(t *testing.T) {
	r := rand.New(rand.NewSource(212))
	count := 0
	for range 4000 {
		text := ""
		for _, s := range someSteps(r, 1+r.Intn(5)) {
			text += thingsOf(s).loose(r) + "\n"
		}
		if r.Intn(3) == 0 {
			text = "repeat 2\n" + text
		}
		text = spoilt(r, text)
		_, err := script.Parse(text)
		f, faulty := err.(*api.Fault)
		if !faulty || f.At == len(text) {
			continue
		}
		size := strings.IndexByte(text[f.At:], '\n')
		if size < 0 {
			continue
		}
		line := text[:f.At+size] // up to the end of the faulty line
		for _, behind := range []string{"", "\n", "\ntick", "\nend", "\n\"", "\n\x00\nrepeat 9", strings.Repeat("\nopen", 3000), strings.Repeat("\ntick", 5000)} {
			refused(t, "P20.12", line+behind, at(f.Err, f.At))
		}
		refused(t, "P20.12", line+strings.Repeat("\n", 65537), at(api.ErrScriptLong, 0))
		count++
	}
	if count < 1000 {
		t.Errorf("the test tells little: %d", count)
	}
}
