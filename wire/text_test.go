package wire_test

import (
	"math/rand"
	"strings"
	"testing"

	"crier/api"
	"crier/wire"
)

// span: the bytes from low to high.
type span struct{ low, high byte }

var tail = span{0x80, 0xBF}

// forms: the forms of a code point, line by line as P1.1 lists them.
var forms = [][]span{
	{{0x00, 0x7F}},
	{{0xC2, 0xDF}, tail},
	{{0xE0, 0xE0}, {0xA0, 0xBF}, tail},
	{{0xE1, 0xEC}, tail, tail},
	{{0xEE, 0xEF}, tail, tail},
	{{0xED, 0xED}, {0x80, 0x9F}, tail},
	{{0xF0, 0xF0}, {0x90, 0xBF}, tail, tail},
	{{0xF1, 0xF3}, tail, tail, tail},
	{{0xF4, 0xF4}, {0x80, 0x8F}, tail, tail},
}

// borders: the bytes at which a form begins or ends, and those beside them.
var borders = []byte{0x00, 0x01, 0x7F, 0x80, 0x8F, 0x90, 0x9F, 0xA0, 0xBF, 0xC0, 0xC1, 0xC2, 0xDF, 0xE0, 0xE1, 0xEC, 0xED, 0xEE, 0xEF, 0xF0, 0xF1, 0xF3, 0xF4, 0xF5, 0xFF}

func fits(s string, form []span) bool {
	if len(s) < len(form) {
		return false
	}
	for i, x := range form {
		if s[i] < x.low || s[i] > x.high {
			return false
		}
	}
	return true
}

// codePoint: how many bytes the code point at s's beginning has; 0: there is none.
func codePoint(s string) int {
	for _, form := range forms {
		if fits(s, form) {
			return len(form)
		}
	}
	return 0
}

// wanted: what P1.2 asks of Check.
func wanted(s string) (int, api.Errno) {
	if len(s) > 65535 {
		return 65535, api.ErrWireLong
	}
	for i := 0; i < len(s); {
		if s[i] == 0 {
			return i, api.ErrWireZero
		}
		n := codePoint(s[i:])
		if n == 0 {
			return i, api.ErrWireUTF
		}
		i += n
	}
	return 0, api.OK
}

func wantCheck(t *testing.T, promise, s string) {
	t.Helper()
	at, e := wire.Check(s)
	if wantAt, wantE := wanted(s); at != wantAt || e != wantE {
		t.Errorf("%s: Check of % X (%d bytes): %d, %d; want %d, %d", promise, s[:min(len(s), 16)], len(s), at, e, wantAt, wantE)
	}
}

// someText: a row of n code points, any ones but U+0000.
func someText(r *rand.Rand, n int) string {
	var b strings.Builder
	for range n {
		form := forms[r.Intn(len(forms))]
		for i, x := range form {
			c := x.low + byte(r.Intn(int(x.high-x.low)+1))
			if i == 0 && c == 0 {
				c = 'a'
			}
			b.WriteByte(c)
		}
	}
	return b.String()
}

func TestEveryCodePointHasItsOneForm(t *testing.T) { // P1.1
	for c := rune(1); c <= 0x10FFFF; c++ {
		if c >= 0xD800 && c <= 0xDFFF {
			continue
		}
		if at, e := wire.Check(string(c)); at != 0 || e != api.OK {
			t.Fatalf("P1.1: U+%04X: %d, %d", c, at, e)
		}
	}
}

func TestSurrogatesAndBeyondHaveNone(t *testing.T) { // P1.1
	lay := func(c int) string {
		if c < 0x10000 {
			return string([]byte{0xE0 | byte(c>>12), 0x80 | byte(c>>6&0x3F), 0x80 | byte(c&0x3F)})
		}
		return string([]byte{0xF0 | byte(c>>18), 0x80 | byte(c>>12&0x3F), 0x80 | byte(c>>6&0x3F), 0x80 | byte(c&0x3F)})
	}
	for _, c := range []int{0xD800, 0xDBFF, 0xDC00, 0xDFFF, 0x110000, 0x13FFFF, 0x1FFFFF} {
		if at, e := wire.Check("ab" + lay(c)); at != 2 || e != api.ErrWireUTF {
			t.Errorf("P1.1: %X: %d, %d", c, at, e)
		}
	}
}

func TestOverlongFormsAreNone(t *testing.T) { // P1.1
	for _, s := range []string{"\xc0\x80", "\xc1\xbf", "\xe0\x80\x80", "\xe0\x9f\xbf", "\xf0\x80\x80\x80", "\xf0\x8f\xbf\xbf"} {
		if at, e := wire.Check(s); at != 0 || e != api.ErrWireUTF {
			t.Errorf("P1.1: % X: %d, %d", s, at, e)
		}
	}
}

func TestAllShortBytesAgainstTheForms(t *testing.T) { // P1.1, P1.2
	for a := range 256 {
		wantCheck(t, "P1.1", string([]byte{byte(a)}))
		for b := range 256 {
			wantCheck(t, "P1.1", string([]byte{byte(a), byte(b)}))
		}
	}
}

func TestBordersOfTheForms(t *testing.T) { // P1.1, P1.2
	for _, a := range borders {
		for _, b := range borders {
			for _, c := range borders {
				wantCheck(t, "P1.1", string([]byte{a, b, c}))
				for _, d := range borders {
					wantCheck(t, "P1.1", string([]byte{a, b, c, d}))
				}
			}
		}
	}
}

func TestCheckTellsPlaces(t *testing.T) { // P1.2
	for _, c := range []struct {
		s  string
		at int
		e  api.Errno
	}{
		{"", 0, api.OK},
		{"plain/text", 0, api.OK},
		{"\uFFFD", 0, api.OK},
		{"a\uFFFDb\x80", 5, api.ErrWireUTF},
		{"\xed\xa0\x80", 0, api.ErrWireUTF},
		{"a\xc0\x80", 1, api.ErrWireUTF},
		{"a\xe2\x82", 1, api.ErrWireUTF},
		{"a\x00\xff", 1, api.ErrWireZero},
		{"a\xff\x00", 1, api.ErrWireUTF},
		{"\xf4\x90\x80\x80", 0, api.ErrWireUTF},
		{"\u00e9\x00", 2, api.ErrWireZero},
		{"\xe2\x00\x80", 0, api.ErrWireUTF},
		{"ab\xef", 2, api.ErrWireUTF},
		{"ab\xef\xbf", 2, api.ErrWireUTF},
	} {
		if at, e := wire.Check(c.s); at != c.at || e != c.e {
			t.Errorf("P1.2: % X: %d, %d; want %d, %d", c.s, at, e, c.at, c.e)
		}
	}
}

func TestCheckAtTheBound(t *testing.T) { // P1.2
	full := strings.Repeat("x", api.MaxText)
	for _, c := range []struct {
		s  string
		at int
		e  api.Errno
	}{
		{full, 0, api.OK},
		{full + "x", api.MaxText, api.ErrWireLong},
		{full + full, api.MaxText, api.ErrWireLong},
		{"\x00" + full, api.MaxText, api.ErrWireLong},
		{"\xff" + full, api.MaxText, api.ErrWireLong},
		{full[1:] + "\x00", api.MaxText - 1, api.ErrWireZero},
		{full[1:] + "\xc3", api.MaxText - 1, api.ErrWireUTF},
		{full[2:] + "\u00e9", 0, api.OK},
		{full[1:] + "\u00e9", api.MaxText, api.ErrWireLong},
	} {
		if at, e := wire.Check(c.s); at != c.at || e != c.e {
			t.Errorf("P1.2: %d bytes: %d, %d; want %d, %d", len(c.s), at, e, c.at, c.e)
		}
	}
}

func TestCheckOfAnyBytes(t *testing.T) { // P1.2
	r := rand.New(rand.NewSource(12))
	for range 20000 {
		b := []byte(someText(r, r.Intn(12)))
		for range r.Intn(3) {
			if len(b) > 0 {
				b[r.Intn(len(b))] = borders[r.Intn(len(borders))]
			}
		}
		wantCheck(t, "P1.2", string(b))
	}
}

func TestTextsJoinedAndCut(t *testing.T) { // P1.9
	r := rand.New(rand.NewSource(19))
	for range 2000 {
		s, u := someText(r, r.Intn(10)), someText(r, r.Intn(10))
		if at, e := wire.Check(s + u); at != 0 || e != api.OK {
			t.Fatalf("P1.9: joined: % X: %d, %d", s+u, at, e)
		}
		for i := 0; i < len(s); i += codePoint(s[i:]) {
			_, left := wire.Check(s[:i])
			_, right := wire.Check(s[i:])
			if left != api.OK || right != api.OK {
				t.Fatalf("P1.9: % X cut at %d: %d, %d", s, i, left, right)
			}
		}
	}
	half := strings.Repeat("\u00e9", api.MaxText/4)
	if _, e := wire.Check(half + half + "abc"); e != api.OK {
		t.Errorf("P1.9: joined to MaxText: %d", e)
	}
	if at, e := wire.Check(half + half + "abcd"); at != api.MaxText || e != api.ErrWireLong {
		t.Errorf("P1.9: joined to one past MaxText: %d, %d", at, e)
	}
}

func TestBytesFarBehindAFaultChangeNothing(t *testing.T) { // P1.9
	r := rand.New(rand.NewSource(91))
	wrong := []string{"\x00", "\x80", "\xff", "\xc0\x80", "\xed\xa0\x80", "\xe2\x82", "\xf0\x9f\x98", "\xf4\x90\x80\x80"}
	for range 5000 {
		s := someText(r, r.Intn(6)) + wrong[r.Intn(len(wrong))] + someText(r, 4)
		at, e := wire.Check(s)
		if e == api.OK {
			t.Fatalf("P1.9: % X: taken", s)
		}
		keep := s[:min(len(s), at+4)]
		other := make([]byte, r.Intn(20))
		r.Read(other)
		for _, u := range []string{keep, keep + string(other), keep + strings.Repeat("z", api.MaxText-len(keep))} {
			if len(keep) < at+4 && len(u) > len(keep) {
				continue // one of the three right behind the place would change
			}
			if at2, e2 := wire.Check(u); at2 != at || e2 != e {
				t.Fatalf("P1.9: % X: %d, %d; with other bytes behind: %d, %d", s, at, e, at2, e2)
			}
		}
	}
}
