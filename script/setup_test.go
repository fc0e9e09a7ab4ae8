package script_test

import (
	"fmt"
	"math/rand"
	"reflect"
	"strings"
	"testing"

	"crier/api"
	"crier/script"
)

// broker9 is a broker's setup, client9 a net's.
const (
	broker9 = "tries cache 9 window 2 queue 9 subs 9 retained 9 sessions 9 most 1000 patience 0"
	client9 = broker9 + " client \"a\" lasting keep 0 window 2"
)

// TestSetup: what a setup says (P20.4).
func TestSetup(t *testing.T) {
	nine := api.Config{Cache: 9, Window: 2, Queue: 9, Subs: 9, Retained: 9, Sessions: 9, Most: 1000}
	some := func(l ...api.User) api.Config {
		c := nine
		c.Users = l
		return c
	}
	for text, want := range map[string]api.Net{
		broker9:                                {Config: nine},
		broker9 + "\n":                         {Config: nine},
		strings.ReplaceAll(broker9, " ", "\n"): {Config: nine},
		strings.ReplaceAll(broker9, " ", " # tries\n\t"):                                                            {Config: nine},
		"list cache 1 window 2 queue 3 subs 4 retained 5 sessions 6 most 7 patience 8":                              {Config: api.Config{List: true, Cache: 1, Window: 2, Queue: 3, Subs: 4, Retained: 5, Sessions: 6, Most: 7, Patience: 8}},
		"tries cache -1 window 0 queue -3 subs -4 retained 0 sessions 0 most 1099511627776 patience -1099511627776": {Config: api.Config{Cache: -1, Queue: -3, Subs: -4, Most: 1 << 40, Patience: -1 << 40}},
		broker9 + " user \"u\" \"w\"":                                                                               {Config: some(api.User{Name: "u", Word: "w"})},
		broker9 + " user\"u\"\"w\"user\"\"\"\\x00\\xff\"user\"u\"\"w\"":                                             {Config: some(api.User{Name: "u", Word: "w"}, api.User{Word: "\x00\xff"}, api.User{Name: "u", Word: "w"})},
		client9: {Config: nine, Clients: []api.Who{{Name: "a", Window: 2}}},
		client9 + " client\"\"clean keep 7 window -1#":                          {Config: nine, Clients: []api.Who{{Name: "a", Window: 2}, {Clean: true, KeepAlive: 7, Window: -1}}},
		client9 + "\nclient\n\"a\"\nlasting\nkeep\n-9\nwindow\n0":               {Config: nine, Clients: []api.Who{{Name: "a", Window: 2}, {Name: "a", KeepAlive: -9}}},
		broker9 + " user \"u\" \"w\" client \"client\" lasting keep 1 window 2": {Config: some(api.User{Name: "u", Word: "w"}), Clients: []api.Who{{Name: "client", KeepAlive: 1, Window: 2}}},
	} {
		n, err := script.Setup(text)
		if err != nil || !reflect.DeepEqual(n, want) {
			t.Errorf("P20.4: %q: %+v, %v; want %+v", text, n, err, want)
		}
	}
}

// TestSetupFaults: where a setup breaks off, each word in another one's place, and what is behind the end (P20.4).
func TestSetupFaults(t *testing.T) {
	whole := broker9 + " user \"u\" \"w\" user \"v\" \"x\" client \"a\" lasting keep 0 window 2 client \"b\" clean keep 9 window 3"
	words := strings.Split(whole, " ")
	right := map[int]bool{}
	for _, n := range []int{17, 20, 23, 30, 37} { // where it may end
		right[n] = true
	}
	for n := range words {
		text := strings.Join(words[:n], " ")
		want := "nil"
		if !right[n] {
			want = at(api.ErrScriptEnd, len(text))
		}
		for _, behind := range []string{"", "\n", " # x\n\n", " \t"} {
			if !right[n] {
				want = at(api.ErrScriptEnd, len(text+behind))
			}
			if _, err := script.Setup(text + behind); fault(err) != want {
				t.Errorf("P20.4: %q: %s; want %s", text+behind, fault(err), want)
			}
		}
		for _, other := range []string{"x", "1", "-1", "\"a\"", "tries", "list", "user", "client", "clean", "lasting", "keep", "window", "cache", "\"", "end"} {
			l := append(append(append([]string(nil), words[:n]...), other), words[n+1:]...)
			text := strings.Join(l, " ")
			made, want := modelSetup(text)
			x, err := script.Setup(text)
			if fault(err) != want {
				t.Errorf("P20.4: %q: %s; want %s", text, fault(err), want)
			}
			if err == nil && netThings(x).line() != made.line() {
				t.Errorf("P20.4: %q: %+v", text, x)
			}
			if err != nil && !reflect.DeepEqual(x, api.Net{}) {
				t.Errorf("P20.4: %q: beside the fault %+v", text, x)
			}
		}
	}
	for text, want := range map[string]string{
		"":                        at(api.ErrScriptEnd, 0),
		" \n# x":                  at(api.ErrScriptEnd, 5),
		"tries window":            at(api.ErrScriptWord, 6),
		"tries list":              at(api.ErrScriptWord, 6),
		"\"tries\"":               at(api.ErrScriptWord, 0),
		"\n\nTries":               at(api.ErrScriptWord, 2),
		broker9 + " 1":            at(api.ErrScriptWord, len(broker9)+1),
		broker9 + "\n\nx":         at(api.ErrScriptWord, len(broker9)+2),
		broker9 + " \"user\"":     at(api.ErrScriptWord, len(broker9)+1),
		client9 + " user":         at(api.ErrScriptWord, len(client9)+1),
		client9 + " 3":            at(api.ErrScriptWord, len(client9)+1),
		client9 + " tries":        at(api.ErrScriptWord, len(client9)+1),
		client9 + "client":        at(api.ErrScriptNumber, len(client9)-1),
		broker9 + " client clean": at(api.ErrScriptWord, len(broker9)+8),
	} {
		if _, err := script.Setup(text); fault(err) != want {
			t.Errorf("P20.4: %q: %s; want %s", text, fault(err), want)
		}
	}
}

// TestSetupLong: MaxSetup bytes, and one more (P20.4).
func TestSetupLong(t *testing.T) {
	for _, text := range []string{broker9 + " #", "x", "", client9 + "\n"} {
		filled := text + strings.Repeat(" ", 4000-len(text))
		_, short := modelSetup(filled)
		if _, err := script.Setup(filled); fault(err) != short {
			t.Errorf("P20.4: %q in 4000 bytes: %s; want %s", text, fault(err), short)
		}
		n, err := script.Setup(filled + " ")
		if fault(err) != at(api.ErrScriptLong, 0) || !reflect.DeepEqual(n, api.Net{}) {
			t.Errorf("P20.4: %q in 4001 bytes: %s", text, fault(err))
		}
	}
}

// netThings tells what stands in a setup.
func netThings(n api.Net) things {
	c := n.Config
	l := things{}.word(map[bool]string{false: "tries", true: "list"}[c.List])
	l = l.word("cache").number(c.Cache).word("window").number(c.Window).word("queue").number(c.Queue).word("subs").number(c.Subs)
	l = l.word("retained").number(c.Retained).word("sessions").number(c.Sessions).word("most").number(c.Most).word("patience").number(c.Patience)
	for _, u := range c.Users {
		l = l.word("user").quote(u.Name).quote(u.Word)
	}
	for _, w := range n.Clients {
		l = l.word("client").quote(w.Name).word(map[bool]string{false: "lasting", true: "clean"}[w.Clean]).word("keep").number(w.KeepAlive).word("window").number(w.Window)
	}
	return l
}

func someSetup(r *rand.Rand) api.Net {
	n := api.Net{Config: api.Config{List: someMark(r), Cache: someNumber(r), Window: someNumber(r), Queue: someNumber(r), Subs: someNumber(r), Retained: someNumber(r), Sessions: someNumber(r), Most: someNumber(r), Patience: someNumber(r)}}
	for range r.Intn(4) {
		n.Config.Users = append(n.Config.Users, api.User{Name: someText(r), Word: someText(r)})
	}
	for range r.Intn(5) {
		n.Clients = append(n.Clients, api.Who{Name: someText(r), Clean: someMark(r), KeepAlive: someNumber(r), Window: someNumber(r)})
	}
	return n
}

// TestSomeSetups: a setup in any form says the same; one that was spoilt has the model's fault.
func TestSomeSetups(t *testing.T) {
	r := rand.New(rand.NewSource(204))
	seen := map[string]int{}
	for range 3000 {
		want := someSetup(r)
		l := netThings(want)
		text := ""
		for i, x := range l {
			text += things{x}.loose(r)
			if i+1 < len(l) || r.Intn(2) == 0 {
				text += someOf(r, "\n", "\n\n", "\n#\n")
			}
		}
		n, err := script.Setup(text)
		if err != nil || netThings(n).line() != l.line() {
			t.Fatalf("P20.4: %q: %+v, %v; want %+v", text, n, err, want)
		}
		for range 3 {
			text := spoilt(r, text)
			if r.Intn(4) == 0 {
				text = text[:r.Intn(len(text)+1)]
			}
			made, want := modelSetup(text)
			n, err := script.Setup(text)
			if fault(err) != want || err == nil && netThings(n).line() != made.line() {
				t.Fatalf("P20.4: %q: %+v, %s; want %s", text, n, fault(err), want)
			}
			seen[strings.Fields(want)[0]]++
		}
	}
	for _, e := range []string{"nil", "200", "201", "204"} {
		if seen[e] < 50 {
			t.Errorf("the test tells little: %s", fmt.Sprint(seen))
		}
	}
}
