package router_test

import (
	"fmt"
	"math/rand"
	"slices"
	"strings"

	"crier/api"
	"crier/topic"
)

// maxText: how many bytes a text has at most.
const maxText = 65535

// noQoS: numbers that are no quality.
func noQoS() []int { return []int{-1, 3, 4, 0x80, 258, 1 << 40, -1 << 63, 1<<63 - 1} }

// noText: texts that are neither a topic nor a filter, whatever their signs.
func noText() []string {
	return []string{"", "\x00", "a/\x00", "\xFF", "\xC0\x80", "a/\xED\xA0\x80", "\xF4\x90\x80\x80", strings.Repeat("a", maxText+1), strings.Repeat("/", maxText+1)}
}

// noTopic: texts that are no topic.
func noTopic() []string {
	return append(noText(), "+", "#", "a/+", "a/#", "+/a", "a+", "a#", "#/a", "/+/", "$/#", "$+")
}

// noFilter: texts that are no filter.
func noFilter() []string {
	return append(noText(), "a+", "+a", "++", "#/a", "a/#/", "#/#", "a#", "##", "+#", "a/#/b", "+/a#", "$+", "+\x00", "#\xFF", strings.Repeat("a", maxText-1)+"/#")
}

// joined tells all texts of 1 to most of these levels.
func joined(most int, levels ...string) []string {
	rows := levels
	all := slices.Clone(levels)
	for range most - 1 {
		var longer []string
		for _, s := range rows {
			for _, l := range levels {
				longer = append(longer, s+"/"+l)
			}
		}
		all, rows = append(all, longer...), longer
	}
	return all
}

// fewFilters: all filters of few levels.
func fewFilters(most int) []string {
	return slices.DeleteFunc(joined(most, "", "a", "b", "$", "+", "#"), func(s string) bool { return topic.CheckFilter(s) != api.OK })
}

// fewTopics: all topics of few levels, one of which no filter of fewFilters has.
func fewTopics(most int) []string {
	return slices.DeleteFunc(joined(most, "", "a", "c", "$", "$a"), func(s string) bool { return topic.Check(s) != api.OK })
}

// fewKeys: keys in their order, byte by byte: the empty one, keys of nameless sessions, some that are no texts, and some that another order would put elsewhere.
func fewKeys() []string {
	return []string{"", "\x00", "\x001", "\x0010", "\x002", "#", "+", "B", "a", "a.", "a/", "a/b", "aa", "b", "\x7F", "\u00E4", "\U00010000", "\xFF"}
}

// someOf picks one.
func someOf[T any](r *rand.Rand, l []T) T { return l[r.Intn(len(l))] }

// shuffled tells a list in another order.
func shuffled[T any](r *rand.Rand, l []T) []T {
	l = slices.Clone(l)
	r.Shuffle(len(l), func(i, j int) { l[i], l[j] = l[j], l[i] })
	return l
}

// eachOrder tells all orders of a list.
func eachOrder[T any](l []T) [][]T {
	if len(l) == 0 {
		return [][]T{nil}
	}
	var orders [][]T
	for i := range l {
		for _, o := range eachOrder(slices.Concat(l[:i], l[i+1:])) {
			orders = append(orders, append([]T{l[i]}, o...))
		}
	}
	return orders
}

// plain tells a message of a topic, with a payload that says which it is.
func plain(s string) api.Message {
	return api.Message{Topic: s, Payload: []byte("<" + s[:min(len(s), 20)] + ">"), QoS: 1}
}

// some tells a message of a topic, the rest of it at random; now and then without a payload.
func some(r *rand.Rand, s string) api.Message {
	payload := make([]byte, r.Intn(4))
	r.Read(payload)
	return api.Message{Topic: s, Payload: payload, QoS: r.Intn(3), Retain: r.Intn(2) == 0}
}

// told tells entries as a text.
func told(l []api.Entry) string {
	var b strings.Builder
	for _, e := range l {
		fmt.Fprintf(&b, "[%.40q %d]", e.Key, e.QoS)
	}
	return b.String()
}

// line tells a message as a line, all of its fields.
func line(m api.Message) string {
	return fmt.Sprintf("%q %q %d %t\n", m.Topic, m.Payload, m.QoS, m.Retain)
}

// lines tells what an iterator gives, a line each.
func lines(s func(func(api.Message) bool)) string {
	var b strings.Builder
	for m := range s {
		b.WriteString(line(m))
	}
	return b.String()
}

// topicsOf tells the topics that an iterator gives.
func topicsOf(s func(func(api.Message) bool)) []string {
	var l []string
	for m := range s {
		l = append(l, m.Topic)
	}
	return l
}

// keysOf tells the keys of entries.
func keysOf(l []api.Entry) []string {
	var keys []string
	for _, e := range l {
		keys = append(keys, e.Key)
	}
	return keys
}

// drawn tells a shape as a text.
func drawn(s api.Shape) string {
	var b strings.Builder
	fmt.Fprintf(&b, "%.40q %t %s", s.Levels, s.Here, told(s.Entries))
	for _, kid := range s.Kids {
		b.WriteString(" (" + drawn(kid) + ")")
	}
	return b.String()
}

// counted tells how many nodes a shape has.
func counted(s api.Shape) int {
	n := 1
	for _, kid := range s.Kids {
		n += counted(kid)
	}
	return n
}
