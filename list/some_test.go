package list_test

import (
	"math/rand"
	"slices"
	"strings"

	"crier/api"
	"crier/topic"
)

// maxText: how many bytes a text has at most.
const maxText = 65535

// noQoS: numbers that are no quality.
func noQoS() []int { return []int{-1, 3, 4, 0x80, 258, 1 << 40, -1 << 63, 1<<63 - 1} }

// noText: texts that are neither a topic nor a filter, whatever their signs.
func noText() []string {
	return []string{"", "\x00", "a/\x00", "\xFF", "\xC0\x80", "a/\xED\xA0\x80", "\xF4\x90\x80\x80", strings.Repeat("a", maxText+1), strings.Repeat("/", maxText+1)}
}

// noTopic: texts that are no topic.
func noTopic() []string {
	return append(noText(), "+", "#", "a/+", "a/#", "+/a", "a+", "a#", "#/a", "/+/", "$/#", "$+")
}

// noFilter: texts that are no filter.
func noFilter() []string {
	return append(noText(), "a+", "+a", "++", "#/a", "a/#/", "#/#", "a#", "##", "+#", "a/#/b", "+/a#", "$+", "+\x00", "#\xFF", strings.Repeat("a", maxText-1)+"/#")
}

// joined tells all texts of 1 to most of these levels.
func joined(most int, levels ...string) []string {
	rows := levels
	all := slices.Clone(levels)
	for range most - 1 {
		var longer []string
		for _, s := range rows {
			for _, l := range levels {
				longer = append(longer, s+"/"+l)
			}
		}
		all, rows = append(all, longer...), longer
	}
	return all
}

// fewFilters: all filters of few levels.
func fewFilters(most int) []string {
	return slices.DeleteFunc(joined(most, "", "a", "b", "$", "+", "#"), func(s string) bool { return topic.CheckFilter(s) != api.OK })
}

// fewTopics: all topics of few levels, one of which no filter of fewFilters has.
func fewTopics(most int) []string {
	return slices.DeleteFunc(joined(most, "", "a", "c", "$", "$a"), func(s string) bool { return topic.Check(s) != api.OK })
}

// fewKeys: keys in their order, byte by byte: the empty one, keys of nameless sessions, some that are no texts, and some that another order would put elsewhere.
func fewKeys() []string {
	return []string{"", "\x00", "\x001", "\x0010", "\x002", "#", "+", "B", "a", "a.", "a/", "a/b", "aa", "b", "\x7F", "\u00E4", "\U00010000", "\xFF"}
}

// someOf picks one.
func someOf[T any](r *rand.Rand, l []T) T { return l[r.Intn(len(l))] }

// shuffled tells a list in another order.
func shuffled[T any](r *rand.Rand, l []T) []T {
	l = slices.Clone(l)
	r.Shuffle(len(l), func(i, j int) { l[i], l[j] = l[j], l[i] })
	return l
}

// eachOrder tells all orders of a list.
func eachOrder[T any](l []T) [][]T {
	if len(l) == 0 {
		return [][]T{nil}
	}
	var orders [][]T
	for i := range l {
		for _, o := range eachOrder(slices.Concat(l[:i], l[i+1:])) {
			orders = append(orders, append([]T{l[i]}, o...))
		}
	}
	return orders
}
