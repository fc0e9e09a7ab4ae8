package cache_test

import (
	"errors"
	"strings"
	"testing"

	"crier/cache"
)

type spot struct {
	x, y int8
	name string
}

type shade uint8

type speaker interface{ speak() string }

type loud struct{ word string }

func (l loud) speak() string { return l.word }

// keysOf: what P8.1 to P8.3 say, of keys of one kind (the first one the zero key), in a cache that has no room for the last one.
func keysOf[K comparable](t *testing.T, kind string, keys ...K) {
	t.Helper()
	c := cache.New[K, int](len(keys) - 1)
	m := &model[K, int]{most: len(keys) - 1}
	for i, k := range keys {
		if v, ok := c.Get(k); v != 0 || ok {
			t.Errorf("P8.2: %s: Get of what never was: %d %v", kind, v, ok)
		}
		c.Put(k, i)
		m.put(k, i)
		alike(t, c, m, kind)
	}
	for _, k := range keys {
		v, ok := c.Get(k)
		if wv, wok := m.get(k); v != wv || ok != wok {
			t.Errorf("P8.2: %s: Get: %d %v, not %d %v", kind, v, ok, wv, wok)
		}
	}
	alike(t, c, m, kind)
	c.Clear()
	m.clear()
	c.Put(keys[0], 0)
	m.put(keys[0], 0)
	alike(t, c, m, kind)
	if v, ok := c.Get(keys[0]); v != 0 || !ok {
		t.Errorf("P8.2: %s: Get of the zero key with the zero value: %d %v", kind, v, ok)
	}
	if k, ok := c.Oldest(); k != keys[0] || !ok {
		t.Errorf("P8.3: %s: Oldest, the zero key: %v %v", kind, k, ok)
	}
	if !c.Drop(keys[0]) || c.Drop(keys[0]) {
		t.Errorf("P8.2: %s: Drop of the zero key", kind)
	}
}

func TestKindsOfKeys(t *testing.T) {
	keysOf(t, "int", 0, 1, -1, 1<<62)
	keysOf(t, "byte", byte(0), 1, 255)
	keysOf(t, "shade", shade(0), 9, 7)
	keysOf(t, "rune", rune(0), 'a', 0x10ffff)
	keysOf(t, "bool", false, true)
	keysOf(t, "string", "", "a", "a/b", "\x00", "\xff", strings.Repeat("x", 65535))
	keysOf(t, "struct", spot{}, spot{x: 1}, spot{y: 1}, spot{name: "a"})
	keysOf(t, "array", [2]string{}, [2]string{"a"}, [2]string{"", "a"})
	keysOf(t, "pointer", nil, new(int), new(int))
	keysOf(t, "channel", nil, make(chan int), make(chan int))
	keysOf[any](t, "any", nil, 1, "1", int8(1), spot{}, [1]int{1}, struct{}{})
	keysOf[speaker](t, "interface", nil, loud{"a"}, &loud{"a"}, loud{"b"})
}

// Equal keys are one, wherever they lie.
func TestEqualKeys(t *testing.T) {
	b := []byte("ab")
	c := cache.New[string, int](3)
	c.Put(string(b), 1)
	b[0] = 'x'
	c.Put("a"+string(b[1:]), 2)
	if s := told(c); s != "ab2 " {
		t.Errorf("P8.1: a key twice: %s", s)
	}
}

func TestKindsOfValues(t *testing.T) {
	l := []int{1, 2, 3}
	lists := cache.New[string, []int](2)
	lists.Put("l", l[:2])
	lists.Put("nil", nil)
	got, ok := lists.Get("l")
	if !ok || &got[0] != &l[0] || len(got) != 2 || cap(got) != 3 {
		t.Errorf("P8.2: a list isn't handed out as it was handed in: %v %v", got, ok)
	}
	l[0] = 9
	for k, v := range lists.All() {
		if k == "l" && v[0] != 9 || k == "nil" && v != nil {
			t.Errorf("P8.3: All: what hangs on %s was copied: %v", k, v)
		}
	}
	if v, ok := lists.Get("nil"); v != nil || !ok {
		t.Errorf("P8.2: Get of the zero value: %v %v", v, ok)
	}

	why := errors.New("why")
	faults := cache.New[int, error](2)
	faults.Put(1, why)
	faults.Put(2, nil)
	if v, ok := faults.Get(1); v != why || !ok {
		t.Errorf("P8.2: an error: %v %v", v, ok)
	}
	if v, ok := faults.Get(2); v != nil || !ok {
		t.Errorf("P8.2: no error: %v %v", v, ok)
	}

	calls := cache.New[string, func() int](1)
	calls.Put("f", func() int { return len(l) })
	if f, ok := calls.Get("f"); !ok || f() != 3 {
		t.Errorf("P8.2: a function: %v", ok)
	}
	if f, ok := calls.Get("g"); ok || f != nil {
		t.Errorf("P8.2: no function: %v", ok)
	}

	sets := cache.New[string, struct{}](2)
	sets.Put("a", struct{}{})
	if _, ok := sets.Get("a"); !ok || sets.Len() != 1 {
		t.Errorf("P8.2: values without bytes: %v, Len %d", ok, sets.Len())
	}

	maps := cache.New[int, map[string]int](1)
	maps.Put(0, map[string]int{"a": 1})
	maps.Put(0, nil)
	if v, ok := maps.Get(0); v != nil || !ok {
		t.Errorf("P8.2: nil put over a map: %v %v", v, ok)
	}

	within := cache.New[int, *cache.Cache[string, int]](1)
	within.Put(0, filled(1, "a"))
	if c, ok := within.Get(0); !ok || told(c) != "a0 " {
		t.Errorf("P8.2: a cache in a cache: %v", ok)
	}
}
