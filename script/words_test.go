package script_test

import (
	"fmt"
	"strings"
	"testing"

	"crier/api"
	"crier/script"
)

// reads holds that a text is read as another one is, which has the one form.
func reads(t *testing.T, promise, text, want string) {
	t.Helper()
	l, err := script.Parse(text)
	if err != nil {
		t.Errorf("%s: %q: %v", promise, text, err)
		return
	}
	if got := printed(t, l); got != want {
		t.Errorf("%s: %q is read as %q; want %q", promise, text, got, want)
	}
}

// refused holds a fault of Parse, and that nothing else is answered.
func refused(t *testing.T, promise, text, want string) {
	t.Helper()
	l, err := script.Parse(text)
	if fault(err) != want || len(l) > 0 {
		t.Errorf("%s: %.300q: %s, %d steps; want %s", promise, text, fault(err), len(l), want)
	}
}

// TestLines: what is passed over, and where words end (P20.1).
func TestLines(t *testing.T) {
	for text, want := range map[string]string{
		"":                             "",
		"\n":                           "",
		" \t\n\t \n# x\n  #\n":         "",
		"tick":                         "tick\n",
		"tick\n":                       "tick\n",
		"tick\n\n":                     "tick\n",
		"\n\ntick\n \ntick":            "tick\ntick\n",
		" \t tick\t ":                  "tick\n",
		"open\t \t1":                   "open 1\n",
		"tick#":                        "tick\n",
		"tick# x \" 1":                 "tick\n",
		"open 1#2":                     "open 1\n",
		"open 1 # 2 # 3":               "open 1\n",
		"# tick\ntick # tick\n#tick":   "tick\n",
		"bytes 1\"a\"":                 "bytes 1 \"a\"\n",
		"bytes 1\"a\"#b":               "bytes 1 \"a\"\n",
		"bytes 1 \"#\"":                "bytes 1 \"#\"\n",
		"bytes 1 \"a # b\" # c":        "bytes 1 \"a # b\"\n",
		"publish 0\"a\"\"b\"0 retain":  "publish 0 \"a\" \"b\" 0 retain\n",
		"unsubscribe 0\"a\"\"b\"\"\"":  "unsubscribe 0 \"a\" \"b\" \"\"\n",
		"subscribe 0\"a\"1\"b\"2":      "subscribe 0 \"a\" 1 \"b\" 2\n",
		"send 1 connect 4 0\"c\"clean": "send 1 connect 4 0 \"c\" clean\n",
	} {
		reads(t, "P20.1", text, want)
	}
	for text, want := range map[string]string{
		"publish 0\"a\"\"b\"0retain": at(api.ErrScriptNumber, 15),
		"tick\r":                     at(api.ErrScriptWord, 0),
		"tick \r":                    at(api.ErrScriptWord, 5),
		"tick\r\n":                   at(api.ErrScriptWord, 0),
		"\vtick":                     at(api.ErrScriptWord, 0),
		"\x00":                       at(api.ErrScriptWord, 0),
		"tick\xA0":                   at(api.ErrScriptWord, 0),
		"tick\u00A0":                 at(api.ErrScriptWord, 0),
		"open\u20281":                at(api.ErrScriptWord, 0),
		"open 1\f":                   at(api.ErrScriptNumber, 5),
		"open1":                      at(api.ErrScriptWord, 0),
		"Open 1":                     at(api.ErrScriptWord, 0),
		"tick;tick":                  at(api.ErrScriptWord, 0),
		"ti#ck":                      at(api.ErrScriptWord, 0),
		"ti\"ck\"":                   at(api.ErrScriptWord, 0),
		"tick tick":                  at(api.ErrScriptWord, 5),
		"tick\"\"":                   at(api.ErrScriptWord, 4),
		"open\n1":                    at(api.ErrScriptEnd, 4),
		"open # 1":                   at(api.ErrScriptEnd, 8),
		"open #":                     at(api.ErrScriptEnd, 6),
		"open \t ":                   at(api.ErrScriptEnd, 7),
		"\n\t\n open #x\n x":         at(api.ErrScriptEnd, 11),
		"tick\nopen x\ngo":           at(api.ErrScriptNumber, 10),
		"tick\n go\nopen x":          at(api.ErrScriptWord, 6),
		"open x \"":                  at(api.ErrScriptNumber, 5),
		"open \" x":                  at(api.ErrScriptWord, 5),
		"open 1 x y":                 at(api.ErrScriptWord, 7),
		"in x y":                     at(api.ErrScriptNumber, 3),
		"in 1 y":                     at(api.ErrScriptNumber, 5),
		"open 1\n\n\nopen":           at(api.ErrScriptEnd, 13),
		"open 1\n\n\nopen\n":         at(api.ErrScriptEnd, 13),
	} {
		refused(t, "P20.1", text, want)
	}
}

// TestQuotedBytes: which bytes stand in a quoted text, as themselves, behind a backslash, and by their numbers (P20.2).
func TestQuotedBytes(t *testing.T) {
	const digits = "0123456789abcdef"
	holds := func(inside, says string, may bool) {
		t.Helper()
		text := `bytes 1 "<` + inside + `>"`
		if !may {
			refused(t, "P20.2", text, at(api.ErrScriptWord, 8))
			return
		}
		if l := parsed(t, text); len(l) != 1 || string(l[0].Event.Data) != "<"+says+">" {
			t.Errorf("P20.2: %q is read as %+v", text, l)
		}
	}
	for i := range 256 {
		c := string([]byte{byte(i)})
		special := c == `"` || c == `\`
		if !special {
			holds(c, c, i >= 0x20 && i <= 0x7e)
		}
		holds(`\`+c, c, special)
		holds(fmt.Sprintf(`\x%02x`, i), c, true)
		digit := strings.IndexByte(digits, c[0])
		holds(`\xa`+c, string([]byte{byte(0xa0 + digit)}), digit >= 0)
		holds(`\x`+c+"5", string([]byte{byte(16*digit + 5)}), digit >= 0)
	}
}

// TestQuotedEnds: a quoted text ends on its line, at a double quote that isn't part of an escape (P20.2).
func TestQuotedEnds(t *testing.T) {
	for inside, says := range map[string]string{
		``: "", `a`: "a", ` `: " ", `\"`: `"`, `\\`: `\`, `\\\"`: `\"`, `\\\\`: `\\`, `\"\"`: `""`, `\\x41`: `\x41`, `\x41`: "A", `\x5c`: `\`, `\x22`: `"`, `\x5cx41`: `\x41`, `\x0a`: "\n", `\x00\xff`: "\x00\xff", `\x414`: "A4",
	} {
		l, err := script.Parse(`bytes 1 "` + inside + `"`)
		if err != nil || string(l[0].Event.Data) != says {
			t.Errorf("P20.2: %s: %+v, %v", inside, l, err)
		}
		l, err = script.Parse(`unsubscribe 1 "` + inside + `""x""` + inside + `"`)
		if err != nil || fmt.Sprintf("%q", l[0].Move.Filters) != fmt.Sprintf("%q", []string{says, "x", says}) {
			t.Errorf("P20.2: %s, and others: %+v, %v", inside, l, err)
		}
	}
	for _, broken := range []string{`"`, `"a`, `"\"`, `"\`, `"\\\"`, `"\x"`, `"\x4"`, `"\x4`, `"\x`, `"\x41`, `"\X41"`, `"\x4A"`, `"\xaG"`, `"\xg0"`, `"\n"`, `"\'"`, `"\0"`, `"\u0041"`, `"\ "`, "\"\t\"", "\"\x7f\"", "\"é\"", "\"\x00\"", `"\x-1"`, `"\x 1"`, "\"a\nb\"", "\"\\\n\"", "\"\\x4\n1\"", "\"\r\"", `"a\"`, `"a#`, `"#`} {
		for ahead, why := range map[string]string{
			"":                                    "a first word is wanted",
			"bytes 1 ":                            "a quoted text is wanted",
			"bytes ":                              "a number is wanted",
			"tick ":                               "nothing may stand",
			"tick":                                "nothing may stand",
			"send 1 ":                             "a packet's word is wanted",
			"subscribe 0 ":                        "a text may stand",
			"subscribe 0 \"a\" ":                  "a number is wanted",
			"unsubscribe 0 \"a\"":                 "a text may stand",
			"send 1 suback 1 2 ":                  "a number may stand",
			"send 1 connack 0 ":                   "a word may stand",
			"send 1 publish \"a\" \"b\" 1 ":       "words may stand",
			"send 1 publish \"a\" \"b\" 1 id ":    "a number is wanted",
			"send 1 connect 4 0 \"c\" ":           "words may stand",
			"send 1 connect 4 0 \"c\" pass \"p\"": "nothing may stand",
			"repeat ":                             "a number is wanted",
			"repeat 2 ":                           "nothing may stand",
			"repeat 2\nend ":                      "nothing may stand",
			"#\n\n up ":                           "a number is wanted, on a later line",
		} {
			text := ahead + broken
			if l, err := script.Parse(text); fault(err) != at(api.ErrScriptWord, len(ahead)) || len(l) > 0 {
				t.Errorf("P20.2: %q (%s): %s", text, why, fault(err))
			}
		}
		for _, ahead := range []string{"", "tries ", "tries cache ", broker9, broker9 + " ", broker9 + " user ", broker9 + " user \"a\"", broker9 + " client ", broker9 + " client \"a\"", broker9 + " client \"a\" clean keep ", client9} {
			if _, err := script.Setup(ahead + broken); fault(err) != at(api.ErrScriptWord, len(ahead)) {
				t.Errorf("P20.2: a setup %q: %s", ahead+broken, fault(err))
			}
		}
	}
}

// TestNumbers: which words are numbers (P20.3).
func TestNumbers(t *testing.T) {
	for text, n := range map[string]int{
		"0": 0, "1": 1, "9": 9, "10": 10, "65535": 65535, "65536": 65536, "100000": 100000, "-1": -1, "-9": -9, "-10": -10, "1099511627775": 1<<40 - 1, "1099511627776": 1 << 40, "-1099511627776": -1 << 40,
	} {
		if l := parsed(t, "out "+text+" "+text); len(l) != 1 || l[0].Move.Client != n || l[0].Move.N != n {
			t.Errorf("P20.3: %s: %+v", text, l)
		}
		if x, err := script.Setup(strings.Replace(broker9, "patience 0", "patience "+text, 1)); err != nil || x.Config.Patience != n {
			t.Errorf("P20.3: %s: %+v, %v", text, x, err)
		}
	}
	for _, text := range []string{
		"00", "01", "-0", "-01", "-00", "+1", "+0", "--1", "-", "1-", "1.0", "1e3", "0x1", "0b1", "0o1", "1_000", "1,0", "x", "1x", "x1", "1099511627777", "-1099511627777", "10995116277760", "9223372036854775807", "9223372036854775808", "-9223372036854775808", "18446744073709551616", "18446744073709551617", strings.Repeat("1", 1000), "\"1\"", "\"\"", "\u0661", "1\r", "1\x00", "retain", "\xFF",
	} {
		refused(t, "P20.3", "open "+text, at(api.ErrScriptNumber, 5))
		refused(t, "P20.3", "out 1 "+text, at(api.ErrScriptNumber, 6))
		refused(t, "P20.3", "send 1 suback 1 0 "+text, at(api.ErrScriptNumber, 18))
		refused(t, "P20.3", "repeat "+text, at(api.ErrScriptNumber, 7))
		if x, err := script.Setup("tries cache " + text); fault(err) != at(api.ErrScriptNumber, 12) || len(x.Clients) > 0 || x.Config.List || x.Config.Cache != 0 {
			t.Errorf("P20.3: a setup with %s: %s", text, fault(err))
		}
	}
}

// TestWanted: what else stands where something is wanted, or where nothing more may stand (P20.3).
func TestWanted(t *testing.T) {
	for text, want := range map[string]string{
		"suback 1 x":                           at(api.ErrScriptWord, 0),
		"send 1 suback 1 x":                    at(api.ErrScriptNumber, 16),
		"send 1 suback 1 \"1\"":                at(api.ErrScriptNumber, 16),
		"unsubscribe 1 x":                      at(api.ErrScriptWord, 14),
		"unsubscribe 1 1":                      at(api.ErrScriptWord, 14),
		"send 1 unsubscribe 1 x":               at(api.ErrScriptWord, 21),
		"subscribe 1 x":                        at(api.ErrScriptWord, 12),
		"subscribe 1 \"a\" \"b\"":              at(api.ErrScriptNumber, 16),
		"subscribe 1 \"a\" 1 1":                at(api.ErrScriptWord, 18),
		"send 1 subscribe 1 \"a\" 1 \"b\"":     at(api.ErrScriptEnd, 28),
		"bytes 1 2":                            at(api.ErrScriptWord, 8),
		"bytes 1":                              at(api.ErrScriptEnd, 7),
		"bytes 1 \"a\" \"b\"":                  at(api.ErrScriptWord, 12),
		"send":                                 at(api.ErrScriptEnd, 4),
		"send x":                               at(api.ErrScriptNumber, 5),
		"send 1":                               at(api.ErrScriptEnd, 6),
		"send 1 1":                             at(api.ErrScriptWord, 7),
		"send 1 \"pingreq\"":                   at(api.ErrScriptWord, 7),
		"send 1 open 1":                        at(api.ErrScriptWord, 7),
		"send 1 Pingreq":                       at(api.ErrScriptWord, 7),
		"connect 4 0 \"c\"":                    at(api.ErrScriptWord, 0),
		"send 1 connack 0 \"present\"":         at(api.ErrScriptWord, 17),
		"send 1 connack 0 present present":     at(api.ErrScriptWord, 25),
		"send 1 connack 0 1":                   at(api.ErrScriptWord, 17),
		"send 1 connect 4 0 \"c\" clean clean": at(api.ErrScriptWord, 29),
		"send 1 connect 4 0 \"c\" dup":         at(api.ErrScriptWord, 23),
		"send 1 connect 4 0 \"c\" user \"u\" clean":   at(api.ErrScriptWord, 32),
		"send 1 connect 4 0 \"c\" user \"u\" will":    at(api.ErrScriptWord, 32),
		"send 1 connect 4 0 \"c\" will":               at(api.ErrScriptEnd, 27),
		"send 1 connect 4 0 \"c\" will \"t\" \"p\"":   at(api.ErrScriptEnd, 35),
		"send 1 connect 4 0 \"c\" will \"t\" \"p\" u": at(api.ErrScriptNumber, 36),
		"send 1 connect 4 0 \"c\" clean \"w\"":        at(api.ErrScriptWord, 29),
		"send 1 connect 4 0 \"c\" pass":               at(api.ErrScriptEnd, 27),
		"send 1 connect 4 0 \"c\" pass 1":             at(api.ErrScriptWord, 28),
		"send 1 connect 4 0 \"c\" pass \"p\" 1":       at(api.ErrScriptWord, 32),
		"send 1 connect 4 0":                          at(api.ErrScriptEnd, 18),
		"send 1 connect 4 0 clean":                    at(api.ErrScriptWord, 19),
		"send 1 connect 4 \"c\"":                      at(api.ErrScriptNumber, 17),
		"send 1 publish \"a\" \"x\"":                  at(api.ErrScriptEnd, 22),
		"send 1 publish \"a\" \"x\" retain":           at(api.ErrScriptNumber, 23),
		"send 1 publish \"a\" \"x\" 1 dup retain":     at(api.ErrScriptWord, 29),
		"send 1 publish \"a\" \"x\" 1 dup dup":        at(api.ErrScriptWord, 29),
		"send 1 publish \"a\" \"x\" 1 retain retain":  at(api.ErrScriptWord, 32),
		"send 1 publish \"a\" \"x\" 1 7":              at(api.ErrScriptWord, 25),
		"send 1 publish \"a\" \"x\" 1 id x":           at(api.ErrScriptNumber, 28),
		"send 1 publish \"a\" \"x\" 1 id 7 id 7":      at(api.ErrScriptWord, 30),
		"send 1 publish \"a\" \"x\" 1 present":        at(api.ErrScriptWord, 25),
		"send 1 puback":                               at(api.ErrScriptEnd, 13),
		"send 1 puback 1 2":                           at(api.ErrScriptWord, 16),
		"send 1 disconnect 0":                         at(api.ErrScriptWord, 18),
		"publish 0 \"a\" \"x\" 1 id 7":                at(api.ErrScriptWord, 20),
		"publish 0 \"a\" 1":                           at(api.ErrScriptWord, 14),
		"publish \"a\" \"x\" 1":                       at(api.ErrScriptNumber, 8),
		"second 1":                                    at(api.ErrScriptWord, 7),
		"show 1":                                      at(api.ErrScriptWord, 5),
		"reboot x":                                    at(api.ErrScriptWord, 7),
		"got":                                         at(api.ErrScriptEnd, 3),
		"got 1 2":                                     at(api.ErrScriptWord, 6),
		"in 1 2 3":                                    at(api.ErrScriptWord, 7),
		"out 1":                                       at(api.ErrScriptEnd, 5),
		"1":                                           at(api.ErrScriptWord, 0),
		"\"\"":                                        at(api.ErrScriptWord, 0),
		"pingreq":                                     at(api.ErrScriptWord, 0),
	} {
		refused(t, "P20.3", text, want)
		refused(t, "P20.3", text+"\nx", want)
		refused(t, "P20.12", "tick\n"+text+"\n\" \x00 end repeat", shifted(want, 5))
	}
}

// shifted tells the same fault so many bytes further on.
func shifted(want string, by int) string {
	var e, place int
	fmt.Sscanf(want, "%d at %d", &e, &place)
	return at(api.Errno(e), place+by)
}
