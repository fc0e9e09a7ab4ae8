package broker_test

import (
	"fmt"
	"math"
	"testing"

	"crier/api"
	"crier/broker"
)

// TestRefusedByLevel: whatever else the Connect says.
func TestRefusedByLevel(t *testing.T) {
	c := wide()
	c.Users = []api.User{{Name: "u", Word: "w"}}
	d := newDesk(t, c)
	for _, level := range []int{0, 1, 3, 5, 255} {
		for _, p := range []api.Packet{hello("a"), hello(""), clean("")} {
			p.Level = level
			d.comes("P16.2", 3, willed(p, retained("w", "x", 1)), "3 connack 1; 3 closed")
			d.wants("P16.2", data(3, "\xC0\x00"), "")
		}
	}
}

// TestRefusedInTurn: code 2 ahead of 4, that ahead of 3; what is refused changes nothing.
func TestRefusedInTurn(t *testing.T) {
	c := wide()
	c.Sessions, c.Users = 1, []api.User{{Name: "u", Word: "w"}}
	user := func(p api.Packet) api.Packet {
		p.HasUser, p.User, p.HasPass, p.Pass = true, "u", true, []byte("w")
		return p
	}
	d := newDesk(t, c)
	for _, full := range []bool{false, true} {
		if full {
			d.comes("P16.3", 0, user(hello("a")), "0 connack 0")
			d.says("P16.3", 0, "0 suback #1 [1]", subscribe(1, ask("#", 1)))
		}
		will := retained("w", "x", 1)
		d.comes("no name, and not Clean", 1, willed(user(hello("")), will), "1 connack 2; 1 closed")
		d.comes("no name, and not Clean", 1, willed(hello(""), will), "1 connack 2; 1 closed")
		d.comes("no user", 1, willed(hello("a"), will), "1 connack 4; 1 closed")
		d.comes("no user", 1, willed(hello("b"), will), "1 connack 4; 1 closed")
		d.comes("no user", 1, willed(clean(""), will), "1 connack 4; 1 closed")
		if full {
			d.comes("no room", 1, willed(user(hello("b")), will), "1 connack 3; 1 closed")
			d.comes("no room", 1, willed(user(clean("b")), will), "1 connack 3; 1 closed")
			d.comes("no room", 1, willed(user(clean("")), will), "1 connack 3; 1 closed")
			d.says("who is online stays", 0, "0 pingresp", kind(api.Pingreq, 0))
			d.comes("its client has a session", 1, user(hello("a")), "0 closed; 1 connack 0 present")
			d.comes("its client has a session", 0, user(clean("a")), "1 closed; 0 connack 0")
			d.comes("its client has a session", 1, user(clean("a")), "0 closed; 1 connack 0")
			d.wants("a clean session's end makes room", closes(1), "")
			d.comes("a clean session's end makes room", 1, user(clean("")), "1 connack 0")
			d.says("a clean session's end makes room", 1, "1 closed", kind(api.Disconnect, 0))
			d.comes("a lasting one's doesn't", 1, user(hello("b")), "1 connack 0")
			d.says("a lasting one's doesn't", 1, "1 closed", kind(api.Disconnect, 0))
			d.comes("a lasting one's doesn't", 1, user(hello("c")), "1 connack 3; 1 closed")
		}
	}
}

// TestSessions: as many sessions as may be, the bound being within its own or beyond them.
func TestSessions(t *testing.T) {
	for sessions, counts := range map[int]int{math.MinInt: 1, -1: 1, 0: 1, 1: 1, 2: 2, 5: 5} {
		c := wide()
		c.Sessions = sessions
		d := newDesk(t, c)
		for n := range counts {
			p := hello(fmt.Sprint("c", n))
			if n%2 == 1 {
				p = clean("")
			}
			d.comes("P16.3", n, p, fmt.Sprintf("%d connack 0", n))
		}
		d.comes("P16.3", 9, hello("x"), "9 connack 3; 9 closed")
		d.comes("P16.3", 9, clean(""), "9 connack 3; 9 closed")
		d.comes("P16.3", 9, hello("c0"), "0 closed; 9 connack 0 present")
	}
}

// TestUsers: a name and its word, byte for byte, and both must be there.
func TestUsers(t *testing.T) {
	users := []api.User{{Name: "u", Word: "w"}, {Name: "u", Word: "w2"}, {Name: "", Word: ""}, {Name: "e", Word: ""}, {Name: "", Word: "o"}, {Name: "raw", Word: "\xFF\x00"}, {Name: "no\x00text", Word: "w"}}
	is := func(user, word string, hasUser, hasPass bool) bool {
		for _, u := range users {
			if u.Name == user && u.Word == word {
				return hasUser && hasPass
			}
		}
		return false
	}
	c := wide()
	c.Users = users
	d, open := newDesk(t, c), newDesk(t, wide())
	for _, user := range []string{"", "u", "e", "raw", "U", "u ", "w"} {
		for _, word := range []string{"", "w", "w2", "o", "\xFF\x00", "\xFF", "W", "w\x00", "u"} {
			for i := range 3 {
				p := hello("a")
				p.HasUser, p.HasPass = i > 0, i > 1
				if p.HasUser {
					p.User = user
				}
				if p.HasPass {
					p.Pass = []byte(word)
				}
				want := "1 connack 4; 1 closed"
				if is(user, word, p.HasUser, p.HasPass) {
					want = "1 connack 0" + marked(" present", d.m.homes["a"] != nil)
				}
				d.comes(fmt.Sprintf("DOC, Connect: %q %q %d", user, word, i), 1, p, want)
				d.wants("P16.1", closes(1), "")
				open.comes("nobody is asked", 1, p, "1 connack 0"+marked(" present", open.m.homes["a"] != nil))
				open.wants("P16.1", closes(1), "")
			}
		}
	}
}

// TestPresent: which session a client finds.
func TestPresent(t *testing.T) {
	d := newDesk(t, wide())
	with := func(promise string, p api.Packet, present bool) {
		t.Helper()
		d.comes(promise, 1, p, "1 connack 0"+marked(" present", present))
		d.says(promise, 1, "1 closed", kind(api.Disconnect, 0))
	}
	with("there was none", hello("a"), false)
	with("a lasting one", hello("a"), true)
	with("a lasting one", hello("a"), true)
	with("Clean asks it away", clean("a"), false)
	with("a clean one has ended", hello("a"), false)
	with("names are told apart", hello("A"), false)
	with("names are told apart", hello("a "), false)
	with("a lasting one", hello("a"), true)
	with("without a name", clean(""), false)
	with("without a name", clean(""), false)
}

// TestDropped: what a session had is gone with it: filters, what is under way, what waits, what came in, the number given last.
func TestDropped(t *testing.T) {
	c := wide()
	c.Window = 1
	for _, way := range []string{"Clean, offline", "Clean, online", "clean, Close", "clean, Disconnect", "clean, replaced", "clean, broken", "clean, late", "clean, Drop"} {
		d := newDesk(t, c)
		d.up("x")
		p := hello("a")
		p.Clean, p.KeepAlive = way[0] == 'c', 1
		d.comes(way, 1, p, "1 connack 0")
		d.says(way, 1, "1 suback #1 [2 2]", subscribe(1, ask("t/#", 2), ask("u", 2)))
		d.says(way, 0, "1 publish t=1 q1 #1; 0 puback #1; 0 puback #2", publish(msg("t", "1", 1), 1), publish(msg("t", "2", 1), 2))
		d.says(way, 1, "1 pubrec #7", publish(msg("o", "", 2), 7))
		closing := ""
		switch way {
		case "Clean, offline", "clean, Close":
			d.wants(way, closes(1), "")
		case "clean, Disconnect":
			d.says(way, 1, "1 closed", kind(api.Disconnect, 0))
		case "clean, broken":
			d.wants(way, data(1, "\xF0"), "1 closed")
		case "clean, late":
			d.wants(way, tick(), "")
			d.wants(way, tick(), "1 closed")
		case "clean, Drop":
			d.drop()
			d.comes(way, 0, hello("x"), "0 connack 0 present")
		default:
			closing = "1 closed; "
		}
		next := hello("a")
		next.Clean = way[0] == 'C'
		d.comes(way, 2, next, closing+"2 connack 0")
		d.says(way, 0, "0 puback #3", publish(msg("t", "3", 1), 3))
		d.says(way, 2, "2 puback #4", publish(msg("u", "4", 1), 4))
		d.says(way, 2, "2 suback #1 [2]", subscribe(1, ask("t", 2)))
		d.says(way, 0, "2 publish t=5 q1 #1; 0 puback #5", publish(msg("t", "5", 1), 5))
		d.says(way, 2, "2 suback #2 [0]; 2 publish o=new q0 #0; 2 pubrec #7", subscribe(2, ask("o", 0)), publish(msg("o", "new", 2), 7))
	}
}

// TestResumes: behind the Connack what is under way is sent again, in its order, and then what waits, as there is room.
func TestResumes(t *testing.T) {
	c := wide()
	c.Window, c.Queue = 3, 3
	d := newDesk(t, c)
	d.up("a", "b")
	d.says("P16.3", 0, "0 suback #1 [2]", subscribe(1, ask("t", 2)))
	d.says("P16.3", 1, "0 publish t=1 q1 #1; 1 puback #1; 0 publish t=2 q2 #2; 1 pubrec #2; 0 publish t=3 q2 #3; 1 pubrec #3", publish(msg("t", "1", 1), 1), publish(msg("t", "2", 2), 2), publish(msg("t", "3", 2), 3))
	d.says("P16.3", 0, "0 pubrel #2", kind(api.Pubrec, 2))
	d.says("P16.3: waits", 1, "1 puback #1", publish(msg("t", "4", 1), 1))
	d.wants("P16.3", closes(0), "")
	d.says("P16.3: waits", 1, "1 puback #1", publish(msg("t", "5", 1), 1))
	d.says("P16.3: offline, quality 0: lost", 1, "", publish(msg("t", "0", 0), 0))
	d.says("P16.3: waits, the last that may", 1, "1 pubrec #5", publish(msg("t", "6", 2), 5))
	d.says("P16.3: lost", 1, "1 puback #1", publish(msg("t", "7", 1), 1))
	d.comes("P16.3", 5, hello("a"), "5 connack 0 present; 5 publish t=1 q1 #1 dup; 5 pubrel #2; 5 publish t=3 q2 #3 dup")
	d.says("P16.3", 5, "5 publish t=4 q1 #4", kind(api.Puback, 1))
	d.comes("P16.3: online still", 6, hello("a"), "5 closed; 6 connack 0 present; 6 pubrel #2; 6 publish t=3 q2 #3 dup; 6 publish t=4 q1 #4 dup")
	d.says("P16.3", 6, "6 publish t=5 q1 #5; 6 publish t=6 q2 #6", kind(api.Pubcomp, 2), kind(api.Puback, 4))
	d.wants("P16.3", closes(6), "")
	d.says("P16.3", 1, "1 puback #1", publish(msg("t", "8", 1), 1))
	d.comes("P16.3: what fits is still under way", 7, hello("a"), "7 connack 0 present; 7 publish t=3 q2 #3 dup; 7 publish t=5 q1 #5 dup; 7 publish t=6 q2 #6 dup")
}

// TestWaitsForNew: a session that was never full resumes, and fills.
func TestWaitsForNew(t *testing.T) {
	c := wide()
	c.Window = 2
	d := newDesk(t, c)
	d.up("a", "b")
	d.says("P16.3", 0, "0 suback #1 [1]", subscribe(1, ask("t", 1)))
	d.says("P16.3", 0, "0 closed", kind(api.Disconnect, 0))
	for i := 1; i <= 3; i++ {
		d.says("P16.3", 1, fmt.Sprintf("1 puback #%d", i), publish(msg("t", fmt.Sprint(i), 1), i))
	}
	d.comes("P16.3", 0, hello("a"), "0 connack 0 present; 0 publish t=1 q1 #1; 0 publish t=2 q1 #2")
	d.says("P16.3", 0, "0 publish t=3 q1 #3", kind(api.Puback, 2))
}

// TestReplaced: the closing, the will's copies, the Connack, the window, in this order.
func TestReplaced(t *testing.T) {
	d := newDesk(t, wide())
	d.up("b", "d")
	d.says("P16.3", 0, "0 suback #1 [2]", subscribe(1, ask("w/#", 2)))
	d.says("P16.3", 1, "1 suback #1 [0]", subscribe(1, ask("+/x", 0)))
	d.comes("P16.3", 5, willed(hello("c"), msg("w/x", "lasting", 1)), "5 connack 0")
	d.says("P16.3", 5, "5 suback #1 [1]", subscribe(1, ask("w/x", 1)))
	d.comes("P16.3: its own session gets it, too", 6, willed(hello("c"), msg("w/x", "second", 2)), "5 closed; 0 publish w/x=lasting q1 #1; 1 publish w/x=lasting q0 #0; 6 connack 0 present; 6 publish w/x=lasting q1 #1")
	d.wants("P22.13: once", closes(5), "")
	d.comes("P16.3: Clean asks its session away", 7, willed(clean("c"), retained("w/x", "third", 0)), "6 closed; 0 publish w/x=second q2 #2; 1 publish w/x=second q0 #0; 7 connack 0")
	d.says("P16.3", 7, "7 suback #1 [1]", subscribe(1, ask("w/x", 1)))
	d.comes("P16.3: a clean one is dropped ahead of its will", 8, hello("c"), "7 closed; 0 publish w/x=third q0 #0; 1 publish w/x=third q0 #0; 8 connack 0")
	d.says("P16.3: its retained will", 8, "8 suback #1 [1]; 8 publish w/x=third q0 #0 retain", subscribe(1, ask("w/x", 1)))
	d.comes("P16.3: a new one has a will no more", 9, hello("c"), "8 closed; 9 connack 0 present")
	d.wants("P22.13: there is none", closes(9), "")
}

// TestAutos: keys of clients without a name: never given twice, ordered byte by byte, as many as may be.
func TestAutos(t *testing.T) {
	c := wide()
	d := newDesk(t, c)
	for n := range 11 {
		d.comes("a new session each time", n, clean(""), fmt.Sprintf("%d connack 0", n))
		d.says("P16.1", n, fmt.Sprintf("%d suback #1 [0]", n), subscribe(1, ask("t", 0)))
	}
	if im := d.crew[0].b.Image(); im.Autos != 11 || len(im.Sessions) != 0 {
		t.Errorf("P16.6: %s", imageText(im))
	}
	d.comes("P16.1", 20, hello("\x01"), "20 connack 0")
	d.says("P16.1", 20, "20 suback #1 [0]", subscribe(1, ask("t", 0)))
	d.says("keys 1, 10, 11, 2 .. 9, then names", 20, "0 publish t=x q0 #0; 9 publish t=x q0 #0; 10 publish t=x q0 #0; 1 publish t=x q0 #0; 2 publish t=x q0 #0; 3 publish t=x q0 #0; 4 publish t=x q0 #0; 5 publish t=x q0 #0; 6 publish t=x q0 #0; 7 publish t=x q0 #0; 8 publish t=x q0 #0; 20 publish t=x q0 #0", publish(msg("t", "x", 0), 0))
	d.wants("P16.1", closes(0), "")
	d.comes("a key isn't given twice", 0, clean(""), "0 connack 0")
	if im := d.crew[0].b.Image(); im.Autos != 12 {
		t.Errorf("P16.6: %d keys; want 12", im.Autos)
	}
	for _, v := range variants(c) {
		b, e := broker.From(v.c, api.Image{Autos: api.MaxAutos - 1})
		if e != api.OK {
			t.Fatalf("P16.7: %d", e)
		}
		for n, want := range []string{"0 connack 0", "1 connack 3; 1 closed", "2 connack 3; 2 closed"} {
			b.Do(opens(n))
			if got := told(b.Do(data(n, encoded(t, clean(""))))); got != want {
				t.Errorf("DOC, Connect: key %d behind MaxAutos - 1: %s; want %s", n, got, want)
			}
		}
		b.Do(opens(3))
		if got := told(b.Do(data(3, encoded(t, clean("named"))))); got != "3 connack 0" {
			t.Errorf("DOC, Connect: a name needs no key: %s", got)
		}
		if im := b.Image(); im.Autos != api.MaxAutos {
			t.Errorf("P16.6: %d keys", im.Autos)
		}
	}
}
