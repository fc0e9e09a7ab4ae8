package broker_test

import (
	"fmt"
	"testing"

	"crier/api"
)

// TestPublish: each quality, to nobody and to somebody; the answer is behind the copies.
func TestPublish(t *testing.T) {
	d := newDesk(t, wide())
	d.up("a", "b")
	d.says("DOC, Publish", 0, "", publish(msg("t", "x", 0), 0))
	d.says("DOC, Publish", 0, "0 puback #5", publish(msg("t", "x", 1), 5))
	d.says("DOC, Publish", 0, "0 pubrec #6", publish(msg("t", "x", 2), 6))
	d.says("DOC, Publish", 1, "1 suback #1 [2]", subscribe(1, ask("t", 2)))
	d.says("DOC, Publish", 0, "1 publish t=x q0 #0", publish(msg("t", "x", 0), 0))
	d.says("DOC, Publish", 0, "1 publish t=x q1 #1; 0 puback #65535", publish(msg("t", "x", 1), 65535))
	d.says("DOC, Publish", 0, "1 publish t=x q2 #2; 0 pubrec #1", publish(msg("t", "x", 2), 1))
	d.says("DOC, Publish: no payload", 0, "1 publish t= q0 #0", publish(msg("t", "", 0), 0))
	again := publish(msg("t", "dup", 1), 5)
	again.Dup = true
	d.says("DOC, Publish: Dup isn't passed on, nor asked at quality 1", 0, "1 publish t=dup q1 #3; 0 puback #5; 1 publish t=dup q1 #4; 0 puback #5", again, again)
	d.says("DOC, Publish: to itself, ahead of the answer", 1, "1 publish t=y q1 #5; 1 puback #2", publish(msg("t", "y", 1), 2))
}

// TestOnce: a message of quality 2 is passed on once, till its number is released, whatever comes with the number, and behind a new connection too.
func TestOnce(t *testing.T) {
	d := newDesk(t, wide())
	d.up("a", "b")
	d.says("P16.1", 1, "1 suback #1 [0]", subscribe(1, ask("#", 0)))
	d.says("DOC, Publish", 0, "1 publish t=x q0 #0; 0 pubrec #9; 0 pubrec #9", publish(msg("t", "x", 2), 9), publish(msg("t", "x", 2), 9))
	other := publish(retained("o", "other", 2), 9)
	other.Dup = true
	d.says("DOC, Publish: another message with that number", 0, "0 pubrec #9", other)
	d.says("DOC, Publish: other numbers", 0, "1 publish t=y q0 #0; 0 pubrec #8; 1 publish t=z q0 #0; 0 pubrec #65535", publish(msg("t", "y", 2), 8), publish(msg("t", "z", 2), 65535))
	d.says("DOC, Publish: quality 1 isn't noted", 0, "1 publish t=w q0 #0; 0 puback #9", publish(msg("t", "w", 1), 9))
	d.says("DOC, Publish: of another session", 1, "1 publish t=v q0 #0; 1 pubrec #9", publish(msg("t", "v", 2), 9))
	d.wants("P16.1", closes(0), "")
	d.comes("DOC, Publish", 0, hello("a"), "0 connack 0 present")
	d.says("DOC, Publish: noted still", 0, "0 pubrec #9; 0 pubrec #8", publish(msg("t", "x", 2), 9), publish(msg("t", "x", 2), 8))
	d.says("DOC, Pubrel", 0, "0 pubcomp #9; 0 pubcomp #9; 0 pubcomp #77", kind(api.Pubrel, 9), kind(api.Pubrel, 9), kind(api.Pubrel, 77))
	d.says("DOC, Pubrel: 9 alone is noted no more", 0, "1 publish t=x q0 #0; 0 pubrec #9; 0 pubrec #8", publish(msg("t", "x", 2), 9), publish(msg("t", "x", 2), 8))
	d.says("DOC, Pubrel: its own session's alone", 1, "1 pubcomp #9; 1 publish t=u q0 #0; 1 pubrec #9", kind(api.Pubrel, 9), publish(msg("t", "u", 2), 9))
	d.says("DOC, Pubrel", 0, "0 pubrec #9", publish(msg("t", "x", 2), 9))
	if im := d.crew[0].b.Image(); len(im.Retained) != 0 || fmt.Sprint(im.Sessions[0].Inbox, im.Sessions[1].Inbox) != "[8 9 65535] [9]" {
		t.Errorf("P16.6: %s", imageText(im))
	}
}

// TestQualities: a copy's is the lesser one of the message's and of the greatest that was granted by a filter that matches (P22.4).
func TestQualities(t *testing.T) {
	d := newDesk(t, wide())
	d.up("s", "p")
	id := 0
	for granted := range 3 {
		for qos := range 3 {
			d.says("P16.1", 0, fmt.Sprintf("0 suback #1 [%d 2 %d]", granted, min(granted, 1)), subscribe(1, ask("t/+", granted), ask("u/+", 2), ask("t/#", min(granted, 1))))
			want, sent := "", min(qos, granted)
			number := 0
			if sent > 0 {
				id++
				number = id
			}
			want = fmt.Sprintf("0 publish t/x=m q%d #%d", sent, number)
			p := publish(msg("t/x", "m", qos), 0)
			switch qos {
			case 1:
				p.ID, want = 3, want+"; 1 puback #3"
			case 2:
				p.ID, want = 3, want+"; 1 pubrec #3; 1 pubcomp #3"
			}
			if qos == 2 {
				d.says("P22.4", 1, want, p, kind(api.Pubrel, 3))
			} else {
				d.says("P22.4", 1, want, p)
			}
		}
	}
	d.says("P22.4: another quality for a filter that it has", 0, "0 suback #1 [0 0]", subscribe(1, ask("t/+", 0), ask("t/#", 0)))
	d.says("P22.4", 1, "0 publish t/x=m q0 #0; 1 puback #3", publish(msg("t/x", "m", 1), 3))
}

// TestWhoGets: by key; each session once, however many of its filters match; nobody else; offline clean ones aren't there.
func TestWhoGets(t *testing.T) {
	d := newDesk(t, wide())
	for n, name := range []string{"b", "ab", "a", "B", "c", "z"} {
		d.comes("P16.1", n, hello(name), fmt.Sprintf("%d connack 0", n))
	}
	d.says("P16.1", 0, "0 suback #1 [0 0 0]", subscribe(1, ask("t/x", 0), ask("t/#", 0), ask("+/x", 0)))
	d.says("P16.1", 1, "1 suback #1 [0]", subscribe(1, ask("#", 0)))
	d.says("P16.1", 2, "2 suback #1 [1]", subscribe(1, ask("t/+", 1)))
	d.says("P16.1", 3, "3 suback #1 [0]", subscribe(1, ask("t/x", 0)))
	d.says("P16.1", 4, "4 suback #1 [2 2]", subscribe(1, ask("t", 2), ask("t/x/y", 2)))
	d.says("P22.4", 5, "3 publish t/x=m q0 #0; 2 publish t/x=m q0 #0; 1 publish t/x=m q0 #0; 0 publish t/x=m q0 #0", publish(msg("t/x", "m", 0), 0))
	d.says("P22.4: $", 5, "", publish(msg("$t/x", "m", 0), 0))
	d.wants("P22.4", closes(2), "")
	d.wants("P22.4", closes(1), "")
	d.says("P22.4: offline ones", 5, "3 publish t/x=n q0 #0; 0 publish t/x=n q0 #0; 5 puback #1", publish(msg("t/x", "n", 1), 1))
	d.says("P22.4: offline, and it is lost", 5, "3 publish t/x=o q0 #0; 0 publish t/x=o q0 #0", publish(msg("t/x", "o", 0), 0))
	d.comes("P22.4: it waited", 2, hello("a"), "2 connack 0 present; 2 publish t/x=n q1 #1")
	d.comes("P22.4: at 0 nothing waits", 1, hello("ab"), "1 connack 0 present")
}

// TestAcknowledgements: told to the session's window: what fits, and what doesn't.
func TestAcknowledgements(t *testing.T) {
	c := wide()
	c.Window, c.Queue = 2, 9
	d := newDesk(t, c)
	d.up("s", "p", "o")
	d.says("P16.1", 0, "0 suback #1 [2]", subscribe(1, ask("t", 2)))
	d.says("P16.1", 2, "2 suback #1 [1]", subscribe(1, ask("o", 1)))
	d.says("P16.1", 1, "0 publish t=1 q1 #1; 1 puback #1; 0 publish t=2 q2 #2; 1 pubrec #2", publish(msg("t", "1", 1), 1), publish(msg("t", "2", 2), 2))
	for i := 3; i <= 5; i++ {
		d.says("P16.1", 1, fmt.Sprintf("1 pubrec #%d", i), publish(msg("t", fmt.Sprint(i), 2), i))
	}
	d.says("DOC, Windows: what fits nothing", 0, "", kind(api.Puback, 2), kind(api.Puback, 3), kind(api.Puback, 65535), kind(api.Pubrec, 1), kind(api.Pubrec, 3), kind(api.Pubcomp, 1), kind(api.Pubcomp, 2))
	d.says("DOC, Windows: another session's", 2, "", kind(api.Puback, 1), kind(api.Pubrec, 2), kind(api.Pubcomp, 2))
	d.says("DOC, Windows: another session's", 1, "", kind(api.Puback, 1), kind(api.Pubrec, 2), kind(api.Pubcomp, 2))
	d.says("DOC, Windows: Pubrec, each time", 0, "0 pubrel #2; 0 pubrel #2", kind(api.Pubrec, 2), kind(api.Pubrec, 2))
	d.says("DOC, Windows: Puback doesn't end it", 0, "", kind(api.Puback, 2))
	d.says("DOC, Windows: Pubcomp", 0, "0 publish t=3 q2 #3", kind(api.Pubcomp, 2), kind(api.Pubcomp, 2), kind(api.Pubrec, 2))
	d.says("DOC, Windows: Puback", 0, "0 publish t=4 q2 #4", kind(api.Puback, 1), kind(api.Puback, 1))
	d.says("DOC, Windows", 0, "0 pubrel #4; 0 publish t=5 q2 #5; 0 pubrel #3; 0 pubrel #5", kind(api.Pubrec, 4), kind(api.Pubcomp, 4), kind(api.Pubrec, 3), kind(api.Pubrec, 5), kind(api.Pubcomp, 5), kind(api.Pubcomp, 3))
	d.says("DOC, Windows: nothing is left", 0, "0 pingresp", kind(api.Puback, 5), kind(api.Pubrec, 3), kind(api.Pubcomp, 4), kind(api.Pingreq, 0))
}

// TestSubscribe: codes in turn, then the retained messages of each filter in turn, in the order of their topics.
func TestSubscribe(t *testing.T) {
	c := wide()
	c.Subs = 3
	d := newDesk(t, c)
	d.up("a", "p")
	for i, m := range []api.Message{retained("b", "B", 2), retained("a/b", "AB", 1), retained("a", "A", 0), retained("$s", "S", 1), retained("a/a/a", "AAA", 2), retained("a!", "X", 0)} {
		p, want := publish(m, i+1), fmt.Sprintf("1 pubrec #%d", i+1)
		switch m.QoS {
		case 0:
			p.ID, want = 0, ""
		case 1:
			want = fmt.Sprintf("1 puback #%d", i+1)
		}
		d.says("P16.1", 1, want, p)
	}
	d.says("DOC, Subscribe: nothing matches", 0, "0 suback #1 [2]", subscribe(1, ask("x", 2)))
	d.says("DOC, Subscribe: in the order of their topics, the lesser quality", 0, "0 suback #2 [1]; 0 publish a=A q0 #0 retain; 0 publish a/a/a=AAA q1 #1 retain; 0 publish a/b=AB q1 #2 retain; 0 publish a!=X q0 #0 retain; 0 publish b=B q1 #3 retain", subscribe(2, ask("#", 1)))
	d.says("DOC, Subscribe: again, at another quality", 0, "0 suback #3 [2]; 0 publish a=A q0 #0 retain; 0 publish a/a/a=AAA q2 #4 retain; 0 publish a/b=AB q1 #5 retain; 0 publish a!=X q0 #0 retain; 0 publish b=B q2 #6 retain", subscribe(3, ask("#", 2)))
	d.says("DOC, Subscribe: each filter in turn, those alone that were taken", 0, "0 suback #4 [0 128 1 128]; 0 publish b=B q0 #0 retain", subscribe(4, ask("b", 0), ask("a", 2), ask("x", 1), ask("$s", 2)))
	d.says("DOC, Unsubscribe", 0, "0 unsuback #5", unsubscribe(5, "b", "x"))
	d.says("DOC, Subscribe: one filter twice", 0, "0 suback #6 [0 2 1]; 0 publish b=B q0 #0 retain; 0 publish b=B q2 #7 retain; 0 publish $s=S q1 #8 retain", subscribe(6, ask("b", 0), ask("b", 2), ask("$s", 1)))
	d.says("DOC, Subscribe: the last one counts", 1, "0 publish b=n q2 #9; 1 pubrec #9", publish(msg("b", "n", 2), 9))
	d.says("DOC, Subscribe: what wasn't taken doesn't match", 0, "0 unsuback #7", unsubscribe(7, "#"))
	d.says("DOC, Subscribe: what wasn't taken doesn't match", 1, "1 puback #9", publish(msg("a", "n", 1), 9))
}

// TestRecalled: retained messages are told to the window, as all copies are: they wait, or are lost.
func TestRecalled(t *testing.T) {
	c := wide()
	c.Window, c.Queue = 1, 1
	d := newDesk(t, c)
	d.up("a", "p")
	for _, topic := range []string{"1", "2", "3", "4"} {
		d.says("P16.1", 1, "1 puback #1", publish(retained(topic, "x", 1), 1))
	}
	d.says("P16.1", 1, "", publish(retained("5", "x", 0), 0))
	d.says("P22.4", 0, "0 suback #1 [1]; 0 publish 1=x q1 #1 retain; 0 publish 5=x q0 #0 retain", subscribe(1, ask("#", 1)))
	d.says("P22.4", 0, "0 publish 2=x q1 #2 retain", kind(api.Puback, 1))
	d.says("P22.4: 3 and 4 are lost", 0, "", kind(api.Puback, 2))
	d.comes("P22.4: the mark stays when it is sent again", 2, hello("b"), "2 connack 0")
	d.says("P22.4", 2, "2 suback #1 [1]; 2 publish 1=x q1 #1 retain; 2 publish 5=x q0 #0 retain", subscribe(1, ask("+", 1)))
	d.wants("P22.4", closes(2), "")
	d.comes("P22.4", 2, hello("b"), "2 connack 0 present; 2 publish 1=x q1 #1 dup retain")
}

// TestUnsubscribe: the filters, and no other one; whether it had them or not.
func TestUnsubscribe(t *testing.T) {
	c := wide()
	c.Subs = 2
	d := newDesk(t, c)
	d.up("a", "b")
	for n := range 2 {
		d.says("P16.1", n, fmt.Sprintf("%d suback #1 [0 1]", n), subscribe(1, ask("t", 0), ask("+", 1)))
	}
	d.says("DOC, Unsubscribe: none that it has", 0, "0 unsuback #3", unsubscribe(3, "#", "t/#", "T"))
	d.says("DOC, Unsubscribe", 0, "0 unsuback #65535", unsubscribe(65535, "+", "+", "x"))
	d.says("P22.4", 1, "0 publish t=m q0 #0; 1 publish t=m q1 #1; 1 puback #1", publish(msg("t", "m", 1), 1))
	d.says("DOC, Unsubscribe: there is room again", 0, "0 suback #1 [2 128]", subscribe(1, ask("u", 2), ask("v", 2)))
	d.says("DOC, Unsubscribe", 0, "0 unsuback #3", unsubscribe(3, "t", "u"))
	d.says("P22.4", 1, "1 publish t=m q1 #2; 1 puback #1", publish(msg("t", "m", 1), 1))
	d.says("DOC, Unsubscribe: what is under way stays", 1, "1 unsuback #4", unsubscribe(4, "t", "+"))
	d.comes("P16.3", 3, hello("b"), "1 closed; 3 connack 0 present; 3 publish t=m q1 #1 dup; 3 publish t=m q1 #2 dup")
}

// TestRetained: what is kept of messages with the mark, as many as may be; copies are without it.
func TestRetained(t *testing.T) {
	c := wide()
	c.Retained = 2
	d := newDesk(t, c)
	d.up("p", "s")
	kept := func(want string) {
		t.Helper()
		got := ""
		for _, m := range d.crew[d.step%7].b.Image().Retained {
			got += fmt.Sprintf("%s=%s q%d %t ", m.Topic, m.Payload, m.QoS, m.Retain)
		}
		if got != want {
			d.fault("DOC, Passing on", "%s; want %s", got, want)
		}
	}
	d.says("P16.1", 1, "1 suback #1 [2]", subscribe(1, ask("#", 2)))
	d.says("without the mark", 0, "1 publish b=0 q0 #0", publish(msg("b", "0", 0), 0))
	kept("")
	d.says("with it", 0, "1 publish b=1 q2 #1; 0 pubrec #1", publish(retained("b", "1", 2), 1))
	kept("b=1 q2 true ")
	d.says("a second one", 0, "1 publish a=2 q0 #0", publish(retained("a", "2", 0), 0))
	kept("a=2 q0 true b=1 q2 true ")
	d.says("no room: it is passed on all the same", 0, "1 publish c=3 q1 #2; 0 puback #2", publish(retained("c", "3", 1), 2))
	kept("a=2 q0 true b=1 q2 true ")
	d.says("a topic's new one", 0, "1 publish b=4 q1 #3; 0 puback #2", publish(retained("b", "4", 1), 2))
	kept("a=2 q0 true b=4 q1 true ")
	d.says("no payload, without the mark", 0, "1 publish b= q0 #0", publish(msg("b", "", 0), 0))
	kept("a=2 q0 true b=4 q1 true ")
	d.says("no payload: gone; it is passed on", 0, "1 publish b= q0 #0", publish(retained("b", "", 0), 0))
	kept("a=2 q0 true ")
	d.says("no payload, and there was none", 0, "1 publish b= q1 #4; 0 puback #2", publish(retained("b", "", 1), 2))
	kept("a=2 q0 true ")
	d.says("room again", 0, "1 publish c=5 q0 #0", publish(retained("c", "5", 0), 0))
	kept("a=2 q0 true c=5 q0 true ")
	d.says("quality 2, noted: not kept", 0, "0 pubrec #1", publish(retained("c", "6", 2), 1))
	kept("a=2 q0 true c=5 q0 true ")
	d.drop()
	kept("a=2 q0 true c=5 q0 true ")
}

// TestPing: a Pingreq, and packets whose length has more bytes than it needs.
func TestPing(t *testing.T) {
	d := newDesk(t, wide())
	d.up("a")
	d.wants("DOC, Pingreq", data(0, "\xC0\x00\xC0\x80\x00\xC0\x80\x80\x80\x00\xC0"), "0 pingresp; 0 pingresp; 0 pingresp")
	d.wants("DOC, Pingreq", data(0, "\x00"), "0 pingresp")
}

// TestDisconnect: the closing, without the will; nothing behind it is read.
func TestDisconnect(t *testing.T) {
	d := newDesk(t, wide())
	d.up("a")
	d.says("P16.1", 0, "0 suback #1 [2]", subscribe(1, ask("#", 2)))
	for _, p := range []api.Packet{hello("b"), clean("b"), clean("")} {
		d.comes("P22.13", 1, willed(p, retained("w", "x", 1)), "1 connack 0")
		d.says("P22.13", 1, "1 closed", kind(api.Disconnect, 0), kind(api.Pingreq, 0))
		d.wants("P22.13", closes(1), "")
		d.wants("P22.13", tick(), "")
	}
	if im := d.crew[0].b.Image(); len(im.Retained) != 0 {
		t.Errorf("P22.13: %s", imageText(im))
	}
}
