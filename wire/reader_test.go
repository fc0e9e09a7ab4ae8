package wire_test

import (
	"bytes"
	"errors"
	"math/rand"
	"strings"
	"testing"

	"crier/api"
	"crier/wire"
)

// want holds a reader's place and its fault (0: none) against what they should be.
func want(t *testing.T, what string, r *wire.Reader, taken, at int, e api.Errno) {
	t.Helper()
	if r.At() != taken {
		t.Errorf("%s: %d bytes taken, want %d", what, r.At(), taken)
	}
	err := r.Err()
	if e == api.OK {
		if err != nil {
			t.Errorf("%s: %v", what, err)
		}
		return
	}
	f, ok := err.(*api.Fault)
	if !ok || f == nil {
		t.Fatalf("%s: %T, want a *api.Fault", what, err)
	}
	if f.At != at || f.Err != e || !errors.Is(err, e) {
		t.Errorf("%s: error %d at %d, want %d at %d", what, f.Err, f.At, e, at)
	}
}

// reads: all reads by name; each answers what it read, a number as an int.
var reads = []struct {
	name string
	zero any
	read func(r *wire.Reader) any
}{
	{"Byte", 0, func(r *wire.Reader) any { return int(r.Byte()) }},
	{"Number", 0, func(r *wire.Reader) any { return r.Number() }},
	{"Long", 0, func(r *wire.Reader) any { return r.Long() }},
	{"Length", 0, func(r *wire.Reader) any { return r.Length() }},
	{"Text", "", func(r *wire.Reader) any { return r.Text() }},
	{"Data", "", func(r *wire.Reader) any { return string(r.Data()) }},
	{"Rest", "", func(r *wire.Reader) any { return string(r.Rest()) }},
	{"End", nil, func(r *wire.Reader) any { r.End(); return nil }},
}

func read(t *testing.T, name string, r *wire.Reader) any {
	t.Helper()
	for _, x := range reads {
		if x.name == name {
			return x.read(r)
		}
	}
	t.Fatalf("no read %s", name)
	return nil
}

func TestSingleReads(t *testing.T) { // P1.6, P1.7
	full := strings.Repeat("m", api.MaxText)
	for _, c := range []struct {
		name, b   string
		got       any
		taken, at int
		e         api.Errno
	}{
		{"Byte", "\xfe\x01", 0xFE, 1, 0, 0},
		{"Byte", "", 0, 0, 0, api.ErrWireShort},
		{"Number", "\x01\x2c\x09", 300, 2, 0, 0},
		{"Number", "\xff\xff", 65535, 2, 0, 0},
		{"Number", "\x01", 0, 0, 1, api.ErrWireShort},
		{"Number", "", 0, 0, 0, api.ErrWireShort},
		{"Long", "\x01\x02\x03\x04\x05", 0x01020304, 4, 0, 0},
		{"Long", "\xff\xff\xff\xff", 1<<32 - 1, 4, 0, 0},
		{"Long", "\x01\x02\x03", 0, 0, 3, api.ErrWireShort},
		{"Long", "", 0, 0, 0, api.ErrWireShort},
		{"Length", "\x05\x80", 5, 1, 0, 0},
		{"Length", "\x80\x80\x00", 0, 3, 0, 0},
		{"Length", "\xff\xff\xff\x7f\x01", 268435455, 4, 0, 0},
		{"Length", "", 0, 0, 0, api.ErrWireShort},
		{"Length", "\xff\xff\xff", 0, 0, 3, api.ErrWireShort},
		{"Length", "\x80\x80\x80\x80", 0, 0, 3, api.ErrWireForm},
		{"Length", "\x80\x80\x80\x80\x01", 0, 0, 3, api.ErrWireForm},
		{"Rest", "abc", "abc", 3, 0, 0},
		{"Rest", "", "", 0, 0, 0},
		{"End", "", nil, 0, 0, 0},
		{"End", "a", nil, 0, 0, api.ErrWireRest},
		{"Data", "\x00\x00", "", 2, 0, 0},
		{"Data", "\x00\x02\x00\xff\x07", "\x00\xff", 4, 0, 0},
		{"Data", "\xff\xff" + full + "z", full, api.MaxText + 2, 0, 0},
		{"Data", "\xff\xff" + full[1:], "", 0, api.MaxText + 1, api.ErrWireShort},
		{"Data", "\x00\x03a", "", 0, 3, api.ErrWireShort},
		{"Data", "\x00", "", 0, 1, api.ErrWireShort},
		{"Data", "", "", 0, 0, api.ErrWireShort},
		{"Text", "\x00\x00", "", 2, 0, 0},
		{"Text", "\x00\x01a\x07", "a", 3, 0, 0},
		{"Text", "\x00\x03\xe2\x82\xac", "\u20ac", 5, 0, 0},
		{"Text", "\xff\xff" + full, full, api.MaxText + 2, 0, 0},
		{"Text", "\xff\xff" + full[1:] + "\x00", "", 0, api.MaxText + 1, api.ErrWireZero},
		{"Text", "\xff\xff" + full[1:], "", 0, api.MaxText + 1, api.ErrWireShort},
		{"Text", "\x00\x02a\x00\x05", "", 0, 3, api.ErrWireZero},
		{"Text", "\x00\x03a\xe2\x82\xac", "", 0, 3, api.ErrWireUTF},
		{"Text", "\x00\x04\u00e9\x80\x00", "", 0, 4, api.ErrWireUTF},
		{"Text", "\x00\x03\x00\xff", "", 0, 4, api.ErrWireShort},
		{"Text", "\x00", "", 0, 1, api.ErrWireShort},
		{"Text", "", "", 0, 0, api.ErrWireShort},
	} {
		// Each is read once from the beginning and once behind other bytes, by which all places move.
		for _, ahead := range []string{"", "\x81\x82\x83"} {
			r := wire.Read([]byte(ahead + c.b))
			for range len(ahead) {
				r.Byte()
			}
			if got := read(t, c.name, r); got != c.got {
				t.Errorf("P1.6, P1.7: %s of % X: %v, want %v", c.name, c.b[:min(len(c.b), 9)], got, c.got)
			}
			want(t, "P1.6, P1.7: "+c.name, r, len(ahead)+c.taken, len(ahead)+c.at, c.e)
		}
	}
}

func TestAFreshReader(t *testing.T) { // P1.5
	want(t, "P1.5: fresh", wire.Read([]byte("abc")), 0, 0, api.OK)
	want(t, "P1.5: of nil", wire.Read(nil), 0, 0, api.OK)
	r := wire.Read([]byte("\x01\x00\x02\x00\x00\x00\x03\x80\x01\x00\x01t\x00\x01\xffrest"))
	if r.Byte() != 1 || r.Number() != 2 || r.Long() != 3 || r.Length() != 128 || r.Text() != "t" || string(r.Data()) != "\xff" {
		t.Errorf("P1.5: reads one behind the other")
	}
	want(t, "P1.5: reads", r, 15, 0, api.OK)
	if string(r.Rest()) != "rest" || len(r.Rest()) != 0 {
		t.Errorf("P1.5: Rest")
	}
	r.End()
	want(t, "P1.5: at the end", r, 19, 0, api.OK)
}

func TestTheFirstFaultStays(t *testing.T) { // P1.5
	for _, first := range []struct {
		name, b string
		at      int
		e       api.Errno
	}{
		{"Long", "\x00\x01a", 4, api.ErrWireShort},
		{"Length", "\x80\x80\x80\x80\x00\x00", 4, api.ErrWireForm},
		{"Text", "\x00\x01\x00rest", 3, api.ErrWireZero},
		{"Text", "\x00\x01\xffrest", 3, api.ErrWireUTF},
		{"Data", "\x00\x09a", 4, api.ErrWireShort},
		{"End", "\x00\x01a", 1, api.ErrWireRest},
	} {
		for _, then := range reads {
			r := wire.Read([]byte("\x07" + first.b))
			r.Byte()
			if got := read(t, first.name, r); got != nil && got != 0 && got != "" {
				t.Errorf("P1.5: %s with a fault: %v", first.name, got)
			}
			want(t, "P1.5: "+first.name, r, 1, first.at, first.e)
			for range 2 {
				if got := then.read(r); got != then.zero {
					t.Errorf("P1.5: %s behind a fault of %s: %v", then.name, first.name, got)
				}
				want(t, "P1.5: "+then.name+" behind a fault of "+first.name, r, 1, first.at, first.e)
			}
		}
	}
}

func TestAFaultAtPlaceZero(t *testing.T) { // P1.5
	r := wire.Read(nil)
	r.Byte()
	r.End()
	r.Rest()
	want(t, "P1.5: a fault of nothing", r, 0, 0, api.ErrWireShort)
}

func TestReadersKeepNothingOfTheirBytes(t *testing.T) { // P1.5, with DOC.md's rule 3
	b := []byte("\x00\x02hi\x00\x02hi")
	r, other := wire.Read(b), wire.Read(b)
	b[2] = 'X'
	d := r.Data()
	if string(d) != "hi" {
		t.Errorf("P1.5: the bytes as they are then: %q", d)
	}
	clear(d)
	d = append(d, 0xFF)
	rest := r.Rest()
	if string(rest) != "\x00\x02hi" {
		t.Errorf("rule 3: an answer that was changed changes the next: % X", rest)
	}
	clear(rest)
	if other.At() != 0 || other.Text() != "hi" || other.Text() != "hi" || other.Err() != nil {
		t.Errorf("P1.5: two readers touch one another")
	}
	if string(d[:2]) != "\x00\x00" || string(b) != "\x00\x02Xi\x00\x02hi" {
		t.Errorf("rule 3: a read changes what was handed in or answered")
	}
}

func TestAnswersShareNoRoom(t *testing.T) { // P1.5, with DOC.md's rule 3
	for n := range 70 {
		r := wire.Read(append(make([]byte, 2), bytes.Repeat([]byte{'r'}, n)...))
		first := append(r.Data(), 'd')
		second := append(r.Rest(), 's')
		third := append(r.Rest(), 't')
		if string(first) != "d" || string(second) != strings.Repeat("r", n)+"s" || string(third) != "t" {
			t.Fatalf("rule 3: answers share memory: %q, %q, %q", first, second, third)
		}
	}
}

func TestErrAnswersNewMemory(t *testing.T) { // P1.5, with DOC.md's rule 3
	r := wire.Read([]byte("a"))
	r.Number()
	f := r.Err().(*api.Fault)
	f.At, f.Err = 99, api.OK
	want(t, "rule 3: behind a Fault that was changed", r, 0, 1, api.ErrWireShort)
	if r.Byte() != 0 {
		t.Errorf("rule 3: a Fault that was changed lets the reader go on")
	}
}

func TestThereAndBack(t *testing.T) { // P1.8
	for _, behind := range []string{"", "\x00", "\x80\xff", "more bytes"} {
		for _, n := range numbers {
			for _, c := range []struct {
				name string
				b    []byte
				n    int
			}{{"Number", wire.PutNumber(nil, n), modulo(n, 1<<16)}, {"Long", wire.PutLong(nil, n), modulo(n, 1<<32)}, {"Length", wire.PutLength(nil, n), min(max(n, 0), api.MaxLength)}} {
				r := wire.Read([]byte(string(c.b) + behind))
				if got := read(t, c.name, r); got != c.n {
					t.Errorf("P1.8: %s of %d: %v", c.name, n, got)
				}
				want(t, "P1.8: "+c.name, r, len(c.b), 0, api.OK)
			}
		}
	}
}

func TestTextsAndDataThereAndBack(t *testing.T) { // P1.8
	r := rand.New(rand.NewSource(18))
	for i := range 400 {
		s := someText(r, r.Intn(30))
		d := make([]byte, r.Intn(300))
		r.Read(d)
		if i == 0 {
			s, d = strings.Repeat("\u00e9", api.MaxText/2)+"x", bytes.Repeat([]byte{0, 0xFF, 1}, api.MaxText/3)
		}
		b, e1 := wire.PutText(nil, s)
		end := len(b)
		b, e2 := wire.PutData(b, d)
		x := wire.Read(append(b, d...))
		if got := x.Text(); e1 != api.OK || got != s {
			t.Fatalf("P1.8: text % X: % X, %d", s, got, e1)
		}
		want(t, "P1.8: Text", x, end, 0, api.OK)
		if got := x.Data(); e2 != api.OK || !bytes.Equal(got, d) {
			t.Fatalf("P1.8: data % X: % X, %d", d, got, e2)
		}
		want(t, "P1.8: Data", x, len(b), 0, api.OK)
	}
}

func TestReadsOfAnyBytes(t *testing.T) { // P1.5
	r := rand.New(rand.NewSource(15))
	for range 20000 {
		b := make([]byte, r.Intn(12))
		for i := range b {
			b[i] = []byte{0, 1, 2, 'a', 0x80, 0xC3, 0xA9, 0xFF}[r.Intn(8)]
		}
		x := wire.Read(b)
		for range 6 {
			taken, before := x.At(), x.Err()
			c := reads[r.Intn(len(reads))]
			got := c.read(x)
			after := x.Err()
			switch {
			case after != nil && (got != c.zero || x.At() != taken):
				t.Fatalf("P1.5: %s of % X with a fault: %v, %d taken", c.name, b, got, x.At())
			case before != nil && *before.(*api.Fault) != *after.(*api.Fault):
				t.Fatalf("P1.5: %s of % X: the first fault was %v, now %v", c.name, b, before, after)
			case x.At() < taken || x.At() > len(b):
				t.Fatalf("P1.5: %s of % X: %d taken, then %d", c.name, b, taken, x.At())
			}
		}
	}
}
