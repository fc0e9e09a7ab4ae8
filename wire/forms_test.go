package wire_test

import (
	"bytes"
	"math"
	"math/rand"
	"strings"
	"testing"

	"crier/api"
	"crier/wire"
)

// numbers: the borders of the forms of numbers and lengths, and what lies beyond them.
var numbers = []int{
	math.MinInt, -1<<32 - 1, -1 << 32, -65537, -65536, -65535, -256, -2, -1, 0, 1, 127, 128, 129, 255, 256, 300,
	16383, 16384, 65535, 65536, 65537, 2097151, 2097152, api.MaxLength - 1, api.MaxLength, api.MaxLength + 1,
	1<<31 - 1, 1 << 31, 1<<32 - 1, 1 << 32, 1<<32 + 258, math.MaxInt,
}

// modulo: n modulo m, from 0 on.
func modulo(n, m int) int { return (n%m + m) % m }

func wantBytes(t *testing.T, what string, got []byte, want ...byte) {
	t.Helper()
	if !bytes.Equal(got, want) {
		t.Errorf("%s: % X, want % X", what, got, want)
	}
}

func TestPutNumber(t *testing.T) { // P1.3
	wantBytes(t, "P1.3: 300", wire.PutNumber(nil, 300), 0x01, 0x2C)
	wantBytes(t, "P1.3: -1", wire.PutNumber(nil, -1), 0xFF, 0xFF)
	wantBytes(t, "P1.3: behind bytes", wire.PutNumber([]byte{1, 2}, 65536+7), 1, 2, 0, 7)
	for _, n := range numbers {
		m := modulo(n, 1<<16)
		wantBytes(t, "P1.3: PutNumber", wire.PutNumber([]byte{9}, n), 9, byte(m/256), byte(m%256))
	}
}

func TestPutLong(t *testing.T) { // P1.3
	wantBytes(t, "P1.3: 1 to 4", wire.PutLong(nil, 0x01020304), 1, 2, 3, 4)
	wantBytes(t, "P1.3: -1", wire.PutLong([]byte{5}, -1), 5, 0xFF, 0xFF, 0xFF, 0xFF)
	for _, n := range numbers {
		m := modulo(n, 1<<32)
		wantBytes(t, "P1.3: PutLong", wire.PutLong([]byte{9}, n), 9, byte(m/(1<<24)), byte(m/(1<<16)%256), byte(m/256%256), byte(m%256))
	}
}

func TestPutLength(t *testing.T) { // P1.3
	for _, c := range []struct {
		n    int
		want string
	}{
		{0, "\x00"}, {1, "\x01"}, {127, "\x7f"}, {128, "\x80\x01"}, {16383, "\xff\x7f"}, {16384, "\x80\x80\x01"},
		{2097151, "\xff\xff\x7f"}, {2097152, "\x80\x80\x80\x01"}, {268435455, "\xff\xff\xff\x7f"}, {268435454, "\xfe\xff\xff\x7f"},
		{268435456, "\xff\xff\xff\x7f"}, {math.MaxInt, "\xff\xff\xff\x7f"}, {-1, "\x00"}, {math.MinInt, "\x00"},
	} {
		wantBytes(t, "P1.3: PutLength", wire.PutLength(nil, c.n), []byte(c.want)...)
		wantBytes(t, "P1.3: PutLength", wire.PutLength([]byte{0x80}, c.n), []byte("\x80"+c.want)...)
	}
}

func TestPutText(t *testing.T) { // P1.3
	full := strings.Repeat("\u4e2d", api.MaxText/3)
	for _, c := range []struct {
		s    string
		want string
		e    api.Errno
	}{
		{"", "\x07\x00\x00", 0}, {"\u00e9", "\x07\x00\x02\xc3\xa9", 0}, {full, "\x07\xff\xff" + full, 0},
		{full + "a", "", api.ErrWireLong}, {"\x00" + full, "", api.ErrWireLong}, {"a\x00", "", api.ErrWireZero}, {"a\xff\x00", "", api.ErrWireUTF}, {"a\x00\xff", "", api.ErrWireZero},
	} {
		b, e := wire.PutText([]byte{7}, c.s)
		if string(b) != c.want || e != c.e {
			t.Errorf("P1.3: PutText of %d bytes: %d bytes, %d; want %d bytes, %d", len(c.s), len(b), e, len(c.want), c.e)
		}
	}
}

func TestPutData(t *testing.T) { // P1.3
	full := strings.Repeat("\x00\xff\x80", api.MaxText/3)
	for _, c := range []struct {
		d    string
		want string
		e    api.Errno
	}{{"", "\x07\x00\x00", 0}, {"\x00\xff", "\x07\x00\x02\x00\xff", 0}, {full, "\x07\xff\xff" + full, 0}, {full + "a", "", api.ErrWireLong}} {
		b, e := wire.PutData([]byte{7}, []byte(c.d))
		if string(b) != c.want || e != c.e {
			t.Errorf("P1.3: PutData of %d bytes: %d bytes, %d; want %d bytes, %d", len(c.d), len(b), e, len(c.want), c.e)
		}
	}
	if b, e := wire.PutData(nil, nil); string(b) != "\x00\x00" || e != api.OK {
		t.Errorf("P1.3: PutData of nil: % X, %d", b, e)
	}
}

// puts: every call that lays something behind bytes.
func puts() []func(b []byte) []byte {
	return []func(b []byte) []byte{
		func(b []byte) []byte { return wire.PutNumber(b, 0x0505) },
		func(b []byte) []byte { return wire.PutLong(b, 0x05050505) },
		func(b []byte) []byte { return wire.PutLength(b, 0x0505) },
		func(b []byte) []byte { b, _ = wire.PutText(b, "text"); return b },
		func(b []byte) []byte { b, _ = wire.PutText(b, ""); return b },
		func(b []byte) []byte { b, _ = wire.PutData(b, []byte("data")); return b },
		func(b []byte) []byte { b, _ = wire.PutData(b, nil); return b },
	}
}

func TestWhatIsHandedInStaysAsItIs(t *testing.T) { // P1.3, with DOC.md's rule 3
	for i, put := range puts() {
		room := bytes.Repeat([]byte{0xAA}, 64)
		got := put(room[:2])
		if !bytes.Equal(room, bytes.Repeat([]byte{0xAA}, 64)) {
			t.Errorf("rule 3: put %d wrote to what was handed in: % X", i, room)
		}
		was := bytes.Clone(got)
		clear(room)
		if !bytes.Equal(got, was) {
			t.Errorf("rule 3: put %d answered memory that was handed in", i)
		}
		clear(got[:cap(got)])
		if again := put(bytes.Repeat([]byte{0xAA}, 2)); !bytes.Equal(again, was) {
			t.Errorf("rule 3: put %d shares memory between answers", i)
		}
	}
	d := []byte("data")
	b, _ := wire.PutData(nil, d)
	clear(d)
	wantBytes(t, "rule 3: PutData", b, 0, 4, 'd', 'a', 't', 'a')
}

func TestLength(t *testing.T) { // P1.4
	for _, c := range []struct {
		b    string
		n, k int
		e    api.Errno
	}{
		{"\x00", 0, 1, 0}, {"\x7f\xff", 127, 1, 0}, {"\x80\x01", 128, 2, 0}, {"\x80\x00", 0, 2, 0}, {"\x80\x80\x80\x00", 0, 4, 0}, {"\x81\x80\x80\x00\x80", 1, 4, 0},
		{"\xff\x7f", 16383, 2, 0}, {"\x80\x80\x01", 16384, 3, 0}, {"\x80\x80\x80\x01", 2097152, 4, 0}, {"\xff\xff\xff\x7f\x09", 268435455, 4, 0},
		{"", 0, 0, api.ErrWireShort}, {"\x80", 0, 0, api.ErrWireShort}, {"\xff\xff", 0, 0, api.ErrWireShort}, {"\x80\x80\x80", 0, 0, api.ErrWireShort},
		{"\x80\x80\x80\x80", 0, 0, api.ErrWireForm}, {"\xff\xff\xff\xff", 0, 0, api.ErrWireForm}, {"\x80\x80\x80\x80\x00", 0, 0, api.ErrWireForm}, {"\x80\x80\x80\x80\x80", 0, 0, api.ErrWireForm},
	} {
		if n, k, e := wire.Length([]byte(c.b)); n != c.n || k != c.k || e != c.e {
			t.Errorf("P1.4: % X: %d, %d, %d; want %d, %d, %d", c.b, n, k, e, c.n, c.k, c.e)
		}
	}
	if n, k, e := wire.Length(nil); n != 0 || k != 0 || e != api.ErrWireShort {
		t.Errorf("P1.4: nil: %d, %d, %d", n, k, e)
	}
}

// wantLength: what P1.4 asks of Length, by places of a power of 128.
func wantLength(b []byte) (int, int, api.Errno) {
	n, power := 0, 1
	for i := range 4 {
		if i == len(b) {
			return 0, 0, api.ErrWireShort
		}
		n += int(b[i]) % 128 * power
		if b[i] < 128 {
			return n, i + 1, api.OK
		}
		power *= 128
	}
	return 0, 0, api.ErrWireForm
}

func TestLengthsOfAnyBytes(t *testing.T) { // P1.4, P1.10
	r := rand.New(rand.NewSource(14))
	for range 50000 {
		b := make([]byte, r.Intn(7))
		for i := range b {
			b[i] = byte(r.Intn(256)) | byte(r.Intn(2))<<7
		}
		n, k, e := wire.Length(b)
		if wantN, wantK, wantE := wantLength(b); n != wantN || k != wantK || e != wantE {
			t.Fatalf("P1.4: % X: %d, %d, %d; want %d, %d, %d", b, n, k, e, wantN, wantK, wantE)
		}
		switch e {
		case api.OK:
			if len(wire.PutLength(nil, n)) > k {
				t.Fatalf("P1.10: % X: %d takes %d bytes, laid anew more", b, n, k)
			}
		case api.ErrWireShort:
			if _, k, e := wire.Length(append(b, 0)); k != len(b)+1 || e != api.OK {
				t.Fatalf("P1.10: % X and 0: %d, %d", b, k, e)
			}
		}
	}
}

func TestShortLengthsAreMadeWholeByAZero(t *testing.T) { // P1.10
	for _, b := range []string{"", "\x80", "\xff", "\x80\x80", "\xff\xff\xff", "\x81\x80\x80"} {
		if _, _, e := wire.Length([]byte(b)); e != api.ErrWireShort {
			t.Errorf("P1.10: % X: %d", b, e)
		}
		n, k, e := wire.Length([]byte(b + "\x00"))
		if wantN, _, _ := wantLength([]byte(b + "\x00")); n != wantN || k != len(b)+1 || e != api.OK {
			t.Errorf("P1.10: % X and 0: %d, %d, %d", b, n, k, e)
		}
	}
	for _, b := range []string{"\x80\x00", "\x81\x80\x00", "\xff\x80\x80\x00", "\xff\xff\xff\x7f", "\x05"} {
		n, k, _ := wire.Length([]byte(b))
		if got := len(wire.PutLength(nil, n)); got > k || got == 0 {
			t.Errorf("P1.10: % X: %d bytes, laid anew %d", b, k, got)
		}
	}
}
