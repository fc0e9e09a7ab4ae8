package image_test

import (
	"bytes"
	"math/rand"
	"strings"
	"testing"

	"crier/api"
	"crier/image"
)

// TestThereAndBack: P15.6 and P15.2 of images that can be.
func TestThereAndBack(t *testing.T) {
	r := rand.New(rand.NewSource(151))
	for range 4000 {
		m := someImage(r)
		if at, e := checked(m); e != 0 {
			t.Fatalf("the test's own image can't be: %d, %d: %s", at, e, drawn(m))
		}
		b, e := image.Encode(m)
		if l := laid(m); e != 0 || !bytes.Equal(b, l.b) {
			t.Fatalf("P15.2: %s: %d, % X; want % X", drawn(m), e, b, l.b)
		}
		back, err := image.Decode(b)
		if err != nil || drawn(back) != drawn(m) || !image.Same(m, back) || !image.Same(back, m) {
			t.Fatalf("P15.6: %s: %v, %s", drawn(m), err, drawn(back))
		}
		if at, e := image.Check(m); at != 0 || e != 0 {
			t.Fatalf("P15.1: %s: %d, %d", drawn(m), at, e)
		}
	}
}

// TestSpoiltImages: P15.1 of images in which a few things were changed.
func TestSpoiltImages(t *testing.T) {
	r := rand.New(rand.NewSource(152))
	refused := 0
	for range 20000 {
		m := someImage(r)
		for range 1 + r.Intn(2) {
			spoilSome(r, &m)
		}
		at, e := image.Check(m)
		wantAt, want := checked(m)
		if at != wantAt || e != want {
			t.Fatalf("P15.1: %s: %d, %d; want %d, %d", drawn(m), at, e, wantAt, want)
		}
		if e != 0 {
			refused++
		}
		if b, got := image.Encode(m); got != e || e != 0 && len(b) > 0 {
			t.Fatalf("P15.3: %s: %d bytes, %d; want %d", drawn(m), len(b), got, e)
		}
	}
	if refused < 5000 {
		t.Errorf("the test spoils too little: %d", refused)
	}
}

// spoilSome changes something anywhere in an image, mostly so that it can't be any more.
func spoilSome(r *rand.Rand, m *api.Image) {
	message := func(x *api.Message) {
		switch r.Intn(4) {
		case 0:
			x.Topic = pick(r, append(noTopics(), someTopic(r)))
		case 1:
			x.QoS = pick(r, append(noQoS(), 0, 1, 2))
		case 2:
			x.Payload = nil
		case 3:
			x.Retain = !x.Retain
		}
	}
	if r.Intn(20) == 0 {
		m.Autos = pick(r, []int{-1, 0, maxAutos, maxAutos + 1})
	}
	if n := len(m.Retained); n > 0 && r.Intn(4) == 0 {
		message(&m.Retained[r.Intn(n)])
	}
	if len(m.Sessions) == 0 {
		return
	}
	s := &m.Sessions[r.Intn(len(m.Sessions))]
	n := []int{1, len(s.Subs), len(s.Subs), 1, len(s.Window.Flight), len(s.Window.Flight), len(s.Window.Flight), len(s.Window.Queue), len(s.Inbox)}
	k := r.Intn(len(n))
	if n[k] == 0 {
		return
	}
	i := r.Intn(n[k])
	switch k {
	case 0:
		s.Client = pick(r, append(noTexts(), "", "a", "c", "d", "zz"))
	case 1:
		s.Subs[i].Filter = pick(r, append(noFilters(), someFilter(r)))
	case 2:
		s.Subs[i].QoS = pick(r, append(noQoS(), 0, 1, 2))
	case 3:
		s.Window.Last = pick(r, []int{-1, 0, maxID, maxID + 1})
	case 4:
		s.Window.Flight[i].ID = pick(r, append(noID(), 1, maxID, maxID-8191))
	case 5:
		s.Window.Flight[i].Released = !s.Window.Flight[i].Released
	case 6:
		message(&s.Window.Flight[i].Msg)
	case 7:
		message(&s.Window.Queue[i])
	case 8:
		s.Inbox[i] = pick(r, append(noID(), 1, maxID, 300, 40000))
	}
}

// holdDecode holds Decode of any bytes against the model, and what it takes against P15.6.
func holdDecode(t *testing.T, b []byte) bool {
	t.Helper()
	m, err := image.Decode(b)
	want, f := parsed(string(b))
	if got := faultOf(t, err); got != f || drawn(m) != drawn(want) {
		t.Fatalf("P15.4: % X: %v, %s; want %v, %s", b, got, drawn(m), f, drawn(want))
	}
	if err != nil {
		return false
	}
	again, e := image.Encode(m)
	if at, c := image.Check(m); at != 0 || c != 0 || e != 0 || !bytes.Equal(again, b) {
		t.Fatalf("P15.6: % X: Check %d, %d; Encode %d, % X", b, at, c, e, again)
	}
	return true
}

// TestSpoiltBytes: P15.4 of an image's bytes with a few of them changed, put in, taken out, doubled.
func TestSpoiltBytes(t *testing.T) {
	r := rand.New(rand.NewSource(154))
	took := 0
	for range 40000 {
		b := laid(someImage(r)).b
		for range 1 + r.Intn(2) {
			i := 4 + r.Intn(len(b)-3)
			if r.Intn(50) == 0 {
				i = r.Intn(5)
			}
			j := min(i+1+r.Intn(3), len(b))
			i = min(i, len(b)-1)
			var with []byte
			switch r.Intn(6) {
			case 0: // taken out
			case 1:
				with = []byte{byte(r.Intn(256))}
			case 2:
				with, j = []byte{pick(r, []byte{0, 1, 2, 3, 0x80, 0xFF})}, i+1
			case 3:
				with, j = []byte{b[i] ^ 1<<r.Intn(8)}, i+1
			case 4:
				with = append(bytes.Clone(b[i:j]), b[i:j]...)
			case 5:
				with, j = []byte{b[i] | 0x80, 0}, i+1
			}
			b = append(append(bytes.Clone(b[:i]), with...), b[j:]...)
			if len(b) < 5 {
				break
			}
		}
		if holdDecode(t, b) {
			took++
		}
	}
	if took < 2000 {
		t.Errorf("too few of the spoilt bytes are an image's: %d", took)
	}
}

// TestAnyBytes: P15.4 of bytes that nobody made as an image.
func TestAnyBytes(t *testing.T) {
	r := rand.New(rand.NewSource(155))
	for range 60000 {
		b := make([]byte, r.Intn(60))
		for i := range b {
			b[i] = pick(r, []byte{0, 0, 0, 1, 1, 2, 'a', '/', '#', byte(r.Intn(256))})
		}
		holdDecode(t, b)
		holdDecode(t, append([]byte("cri1"), b...))
		holdDecode(t, append([]byte("cri1\x00\x00\x00\x07"), b...))
	}
}

// TestNoBeginning: P15.7: no beginning of an image's bytes, and nothing that begins with them, is another one's.
func TestNoBeginning(t *testing.T) {
	r := rand.New(rand.NewSource(157))
	var all []string
	for range 150 {
		b := laid(someImage(r)).b
		all = append(all, string(b))
		for k := range b {
			if _, err := image.Decode(b[:k]); err == nil {
				t.Fatalf("P15.7: the first %d of % X", k, b)
			}
		}
		for range 20 {
			behind := make([]byte, 1+r.Intn(9))
			r.Read(behind)
			wantDecode(t, "something behind", append(b[:len(b):len(b)], behind...), len(b), errForm)
		}
	}
	for i, a := range all {
		for j, b := range all {
			if i != j && a != b && strings.HasPrefix(b, a) {
				t.Fatalf("P15.7: % X begins % X", a, b)
			}
		}
	}
}
