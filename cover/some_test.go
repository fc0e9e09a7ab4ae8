package cover_test

import (
	"math/big"
	"strings"
	"testing"

	"crier/api"
	"crier/cover"
	"crier/topic"
)

// maxText: how many bytes a text has at most.
const maxText = 65535

// wrong: texts that are no filter.
func wrong() []string {
	return []string{"", "a+", "+a", "++", "#/a", "a/#/", "#/#", "a#", "##", "+#", "#+", "/a#", "\x00", "a/\x00", "\xFF", "\xC0\x80", "+/\xED\xA0\x80", strings.Repeat("a", maxText+1), strings.Repeat("/", maxText+1), strings.Repeat("a", maxText-1) + "/#"}
}

// joined tells all texts of 1 to most of these levels.
func joined(most int, levels ...string) []string {
	rows := levels
	all := append([]string(nil), levels...)
	for range most - 1 {
		var longer []string
		for _, s := range rows {
			for _, l := range levels {
				longer = append(longer, s+"/"+l)
			}
		}
		all, rows = append(all, longer...), longer
	}
	return all
}

// only tells those of l of which the check is OK.
func only(l []string, check func(string) api.Errno) []string {
	var some []string
	for _, s := range l {
		if check(s) == api.OK {
			some = append(some, s)
		}
	}
	return some
}

// fewFilters: all filters of few levels.
func fewFilters() []string {
	return only(joined(3, "", "a", "b", "$", "$a", "+", "#"), topic.CheckFilter)
}

// fewTopics: topics that tell all sets of fewFilters apart: with one level more, and with a level that none of them has.
func fewTopics() []string {
	return only(joined(4, "", "a", "b", "c", "$", "$a"), topic.Check)
}

// sets tells of each text which of the topics it matches, a bit for each.
func sets(texts, topics []string) []*big.Int {
	l := make([]*big.Int, len(texts))
	for i, f := range texts {
		l[i] = new(big.Int)
		for bit, s := range topics {
			if topic.Match(f, s) {
				l[i].SetBit(l[i], bit, 1)
			}
		}
	}
	return l
}

func meets(a, b *big.Int) bool  { return new(big.Int).And(a, b).Sign() != 0 }
func inside(a, b *big.Int) bool { return new(big.Int).AndNot(a, b).Sign() == 0 }

// holdMeet holds what Meet tells, either way round, against P6.1.
func holdMeet(t *testing.T, f, g string, want bool) {
	t.Helper()
	for range 2 {
		s, ok := cover.Meet(f, g)
		if ok != want {
			t.Errorf("P6.1: Meet(%.20q, %d bytes; %.20q, %d bytes): %t, want %t", f, len(f), g, len(g), ok, want)
		}
		if ok && !(topic.Match(f, s) && topic.Match(g, s)) {
			t.Errorf("P6.1: Meet(%.20q, %d bytes; %.20q, %d bytes): %.20q, %d bytes, isn't in both", f, len(f), g, len(g), s, len(s))
		}
		if !ok && s != "" {
			t.Errorf("P6.1: Meet(%.20q, %.20q): %.20q and false", f, g, s)
		}
		f, g = g, f
	}
}

// holdOutside holds what Outside and Within tell against P6.2 and P6.3.
func holdOutside(t *testing.T, f, g string, want bool) {
	t.Helper()
	s, ok := cover.Outside(f, g)
	if ok != want {
		t.Errorf("P6.2: Outside(%.20q, %d bytes; %.20q, %d bytes): %t, want %t", f, len(f), g, len(g), ok, want)
	}
	if ok && (!topic.Match(f, s) || topic.Match(g, s)) {
		t.Errorf("P6.2: Outside(%.20q, %d bytes; %.20q, %d bytes): %.20q, %d bytes, isn't in the first alone", f, len(f), g, len(g), s, len(s))
	}
	if !ok && s != "" {
		t.Errorf("P6.2: Outside(%.20q, %.20q): %.20q and false", f, g, s)
	}
	if got := cover.Within(f, g); got == want {
		t.Errorf("P6.3: Within(%.20q, %d bytes; %.20q, %d bytes): %t", f, len(f), g, len(g), got)
	}
}
