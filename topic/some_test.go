package topic_test

import (
	"math/rand"
	"strings"
)

// maxText: how many bytes a text has at most.
const maxText = 65535

// texts tells all rows of at most most of these pieces, the empty one first.
func texts(most int, pieces ...string) []string {
	all := []string{""}
	for begin := 0; most > 0; most-- {
		end := len(all)
		for _, s := range all[begin:end] {
			for _, p := range pieces {
				all = append(all, s+p)
			}
		}
		begin = end
	}
	return all
}

// joined tells all texts of 1 to most of these levels.
func joined(most int, levels ...string) []string {
	var all []string
	for _, s := range texts(most, slashed(levels)...)[1:] {
		all = append(all, s[1:])
	}
	return all
}

func slashed(levels []string) []string {
	l := make([]string, len(levels))
	for i, s := range levels {
		l[i] = "/" + s
	}
	return l
}

// only tells those of l that are so.
func only(l []string, so func(string) bool) []string {
	var some []string
	for _, s := range l {
		if so(s) {
			some = append(some, s)
		}
	}
	return some
}

// cut tells the pieces between the bytes '/', byte by byte.
func cut(s string) []string {
	l := []string{""}
	for _, c := range []byte(s) {
		if c == '/' {
			l = append(l, "")
			continue
		}
		l[len(l)-1] += string([]byte{c})
	}
	return l
}

// someText tells some bytes, of which many are '/' and few are no text.
func someText(r *rand.Rand) string {
	pieces := []string{"/", "/", "/", "a", "b", "ab", "$", "+", "#", ".", "!", "0", "é", "į", "\U0001F600", "\x00", "\xE2", "\x80", "\xFF"}
	var b strings.Builder
	for range r.Intn(12) {
		b.WriteString(pieces[r.Intn(len(pieces))])
	}
	return b.String()
}

// someTexts tells a list with several texts more than once.
func someTexts(r *rand.Rand) []string {
	l := make([]string, 0, 40)
	for range r.Intn(30) {
		if len(l) > 0 && r.Intn(3) == 0 {
			l = append(l, l[r.Intn(len(l))])
			continue
		}
		l = append(l, someText(r))
	}
	return l
}
