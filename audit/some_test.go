package audit_test

import (
	"fmt"
	"math"
	"math/rand"
	"slices"
	"strings"
	"testing"
	"unicode/utf8"

	"crier/api"
)

// The bounds and the errors, as numbers: the tests hold the document's, whatever the constants are.
const (
	maxID   = 65535
	maxText = 65535

	errOrder   api.Errno = 210
	errText    api.Errno = 211
	errFilter  api.Errno = 212
	errMessage api.Errno = 213
	errWindow  api.Errno = 214
	errInbox   api.Errno = 215
)

// noTexts: what is no text.
func noTexts() []string {
	return []string{"\x00", "a\x00", "\xFF", "a\xC0\x80", "\xED\xA0\x80", "\xF4\x90\x80\x80", "b\xE2\x82", strings.Repeat("c", maxText+1), strings.Repeat("+", maxText+1)}
}

// noTopics: what is no topic.
func noTopics() []string { return append(noTexts(), "", "+", "#", "a/+", "a#b") }

// noFilters: what is no filter.
func noFilters() []string { return append(noTexts(), "", "a+", "#/a", "a/#/", "++", "a#") }

// noQoS: numbers that are no quality; some would be one, if only a part of them counted.
func noQoS() []int {
	return []int{-1, 3, 4, 0x80, 256, 257, 258, 1 << 32, 1<<32 + 1, math.MinInt, math.MaxInt}
}

// noID: numbers that are no packet number.
func noID() []int {
	return []int{0, -1, 65536, 65537, 1 << 32, 1<<32 + 1, math.MinInt, math.MaxInt}
}

func note(topic string, qos int) api.Message {
	return api.Message{Topic: topic, Payload: []byte("<" + topic + ">"), QoS: qos}
}

func kept(topic string, qos int) api.Message {
	m := note(topic, qos)
	m.Retain = true
	return m
}

// full tells an image with all that one can have.
func full() api.Image {
	s := api.Session{
		Client: "c",
		Subs:   []api.Ask{{Filter: "#", QoS: 2}, {Filter: "a/+"}, {Filter: "a.b", QoS: 1}},
		Window: api.Window{
			Last:   300,
			Flight: []api.Flight{{ID: 7, Released: true}, {ID: 6, Msg: kept("a/b", 2)}, {ID: 65535, Msg: note("é", 1)}},
			Queue:  []api.Message{note("q", 1), {Topic: "r", QoS: 2, Retain: true}},
		},
		Inbox: []int{1, 300, 65535},
	}
	o := api.Session{Client: "c.d", Subs: []api.Ask{{Filter: "x", QoS: 1}}, Window: api.Window{Queue: []api.Message{note("z", 2)}}, Inbox: []int{5}}
	return api.Image{Autos: 258, Sessions: []api.Session{s, o, {Client: "c/d"}}, Retained: []api.Message{kept("a/b", 2), kept("a.b", 1), kept("b", 0)}}
}

// of tells an image of one session with these filters.
func of(client string, subs ...api.Ask) api.Image {
	return api.Image{Sessions: []api.Session{{Client: client, Subs: subs}}}
}

// isText, isTopic and isFilter: DOC.md's words.
func isText(s string) bool {
	return len(s) <= maxText && utf8.ValidString(s) && !strings.Contains(s, "\x00")
}

func isTopic(s string) bool { return isText(s) && s != "" && !strings.ContainsAny(s, "+#") }

func isFilter(s string) bool {
	if !isText(s) || s == "" {
		return false
	}
	l := strings.Split(s, "/")
	for i, level := range l {
		if strings.ContainsAny(level, "+#") && level != "+" && (level != "#" || i < len(l)-1) {
			return false
		}
	}
	return true
}

func isQoS(n int) bool { return n == 0 || n == 1 || n == 2 }

// ahead tells whether a text stands ahead of another one in the order of topics: a list of levels ahead of those that it begins.
func ahead(a, b string) bool {
	return slices.Compare(strings.Split(a, "/"), strings.Split(b, "/")) < 0
}

// matches: DOC.md's words.
func matches(filter, topic string) bool {
	if !isFilter(filter) || !isTopic(topic) || topic[0] == '$' && (filter[0] == '+' || filter[0] == '#') {
		return false
	}
	f, s := strings.Split(filter, "/"), strings.Split(topic, "/")
	for i, level := range f {
		if level == "#" {
			return true
		}
		if i == len(s) || level != "+" && level != s[i] {
			return false
		}
	}
	return len(f) == len(s)
}

// drawn tells anything as a text in which no two unlike things are alike, but for nil lists and empty ones.
func drawn(x any) string { return fmt.Sprintf("%+q", fmt.Sprintf("%#v", plain(x))) }

// plain tells the same with no empty list but nil.
func plain(x any) any {
	switch l := x.(type) {
	case []api.Entry:
		return append([]api.Entry(nil), l...)
	case []api.Spare:
		return append([]api.Spare(nil), l...)
	case []api.Fault:
		return append([]api.Fault(nil), l...)
	case []api.Message:
		return plainMessages(l)
	case api.Image:
		m := api.Image{Autos: l.Autos, Retained: plainMessages(l.Retained)}
		for _, s := range l.Sessions {
			s.Subs, s.Inbox = append([]api.Ask(nil), s.Subs...), append([]int(nil), s.Inbox...)
			s.Window.Flight, s.Window.Queue = append([]api.Flight(nil), s.Window.Flight...), plainMessages(s.Window.Queue)
			for i, f := range s.Window.Flight {
				s.Window.Flight[i].Msg.Payload = append([]byte(nil), f.Msg.Payload...)
			}
			m.Sessions = append(m.Sessions, s)
		}
		return m
	}
	return x
}

func plainMessages(l []api.Message) []api.Message {
	var all []api.Message
	for _, m := range l {
		m.Payload = append([]byte(nil), m.Payload...)
		all = append(all, m)
	}
	return all
}

// copied tells the same image in memory of its own.
func copied(m api.Image) api.Image { return plain(m).(api.Image) }

// want holds an answer against what it should be.
func want(t *testing.T, what string, got, want any) {
	t.Helper()
	if g, w := drawn(got), drawn(want); g != w {
		t.Errorf("%.300s: %.900s, want %.900s", what, g, w)
	}
}

// pick tells one of these.
func pick[T any](r *rand.Rand, l ...T) T { return l[r.Intn(len(l))] }

// someQoS tells a quality; now and then, if wrong, something that is none.
func someQoS(r *rand.Rand, wrong bool) int {
	if wrong && r.Intn(12) == 0 {
		return pick(r, noQoS()...)
	}
	return r.Intn(3)
}

// joined tells all texts of 1 to most of these levels.
func joined(most int, levels ...string) []string {
	rows := levels
	all := slices.Clone(levels)
	for range most - 1 {
		var longer []string
		for _, s := range rows {
			for _, l := range levels {
				longer = append(longer, s+"/"+l)
			}
		}
		all, rows = append(all, longer...), longer
	}
	return all
}

func only(l []string, is func(string) bool) []string {
	return slices.DeleteFunc(l, func(s string) bool { return !is(s) })
}

// fewFilters and fewTopics: all filters of few levels, and topics that tell their sets apart: with one level more, and with a level that none of those has.
func fewFilters() []string { return only(joined(3, "", "a", "b", "$", "+", "#"), isFilter) }

func fewTopics() []string { return only(joined(4, "", "a", "b", "c", "$"), isTopic) }

// someSubs tells filters of few levels, not in their order, some of them twice; now and then, if wrong, something that is no filter or no quality.
func someSubs(r *rand.Rand, filters []string, wrong bool) []api.Ask {
	l := make([]api.Ask, r.Intn(8))
	for i := range l {
		l[i] = api.Ask{Filter: pick(r, filters...), QoS: someQoS(r, wrong)}
		switch {
		case i > 0 && r.Intn(6) == 0:
			l[i].Filter = l[r.Intn(i)].Filter
		case r.Intn(5) == 0:
			l[i].Filter = pick(r, "#", "+/#", "/#", "/+/#", "a/#", "a/+", "a", "+")
		case wrong && r.Intn(10) == 0:
			l[i].Filter = pick(r, "", "a+", "#/a", "\xFF", "\x00")
		}
	}
	return l
}

// someClients tells clients in any order; if twice, also the same one several times.
func someClients(r *rand.Rand, twice bool) []string {
	names := []string{"a", "b", "", "a/b", "a.b", "a/", "\x00", "\xFF", "+", "é", "B", "aa", "$"}
	r.Shuffle(len(names), func(i, j int) { names[i], names[j] = names[j], names[i] })
	names = names[:r.Intn(7)]
	if twice && len(names) > 0 {
		for range r.Intn(4) {
			names = append(names, pick(r, names...))
		}
	}
	return names
}

// someImage tells an image of few filters; if wrong, one that no broker made.
func someImage(r *rand.Rand, filters []string, wrong bool) api.Image {
	var m api.Image
	for _, name := range someClients(r, wrong) {
		m.Sessions = append(m.Sessions, api.Session{Client: name, Subs: someSubs(r, filters, wrong)})
	}
	return m
}
