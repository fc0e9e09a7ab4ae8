package cache_test

import (
	"testing"

	"crier/cache"
)

func TestExamples(t *testing.T) {
	c := cache.New[string, int](2)
	c.Put("a", 1)
	c.Put("b", 2)
	if v, ok := c.Get("a"); v != 1 || !ok {
		t.Errorf("P8.2: Get a: %d %v", v, ok)
	}
	c.Put("c", 3)
	if s := told(c); s != "c3 a1 " {
		t.Errorf("P8.2: %s", s)
	}
	if k, ok := c.Oldest(); k != "a" || !ok {
		t.Errorf("P8.3: Oldest: %q %v", k, ok)
	}
	c.Put("a", 9)
	if s := told(c); s != "a9 c3 " {
		t.Errorf("P8.2: %s", s)
	}
	if first, second := c.Drop("c"), c.Drop("c"); !first || second {
		t.Errorf("P8.2: Drop c: %v, %v", first, second)
	}
	if n := c.Len(); n != 1 {
		t.Errorf("P8.3: Len %d", n)
	}
	if n := c.Clear(); n != 1 {
		t.Errorf("P8.2: Clear %d", n)
	}
	if k, ok := c.Oldest(); k != "" || ok {
		t.Errorf("P8.3: Oldest of nothing: %q %v", k, ok)
	}
}

func TestNewHoldsNothing(t *testing.T) {
	for _, most := range []int{-1 << 63, -1, 0, 1, 2, 100, 1<<20 + 1, 1<<63 - 1} {
		c := cache.New[string, int](most)
		if c == nil {
			t.Fatalf("P8.1: New(%d) is nil", most)
		}
		if n := c.Len(); n != 0 || told(c) != "" {
			t.Errorf("P8.1: New(%d): Len %d, All %s", most, n, told(c))
		}
		if k, ok := c.Oldest(); k != "" || ok {
			t.Errorf("P8.3: New(%d): Oldest %q %v", most, k, ok)
		}
		if v, ok := c.Get("a"); v != 0 || ok {
			t.Errorf("P8.2: New(%d): Get %d %v", most, v, ok)
		}
		if c.Drop("a") || c.Clear() != 0 {
			t.Errorf("P8.2: New(%d): Drop or Clear of nothing", most)
		}
	}
}

func TestMostBelowOne(t *testing.T) {
	for _, most := range []int{-1 << 63, -2, -1, 0} {
		c := cache.New[string, int](most)
		for _, k := range []string{"a", "b", "a"} {
			c.Put(k, 1)
			if v, ok := c.Get(k); v != 0 || ok {
				t.Errorf("P8.2: most %d: Get %s: %d %v", most, k, v, ok)
			}
			if c.Len() != 0 || told(c) != "" || c.Drop(k) || c.Clear() != 0 {
				t.Errorf("P8.2: most %d: something is held", most)
			}
			if k, ok := c.Oldest(); k != "" || ok {
				t.Errorf("P8.3: most %d: Oldest %q %v", most, k, ok)
			}
		}
	}
}

func TestMostOfMost(t *testing.T) {
	const limit = 1048576
	for _, most := range []int{limit - 1, limit, limit + 1, 1<<63 - 1} {
		c := cache.New[int, int](most)
		holds := min(most, limit)
		for k := range holds {
			c.Put(k, -k)
		}
		if k, ok := c.Oldest(); c.Len() != holds || k != 0 || !ok {
			t.Errorf("P8.1: most %d, full: Len %d, Oldest %d %v", most, c.Len(), k, ok)
		}
		c.Put(holds, -holds)
		if k, ok := c.Oldest(); c.Len() != holds || k != 1 || !ok {
			t.Errorf("P8.1: most %d, one more: Len %d, Oldest %d %v", most, c.Len(), k, ok)
		}
		next := holds
		for k, v := range c.All() {
			if k != next || v != -k {
				t.Fatalf("P8.3: most %d: %d %d, not %d", most, k, v, next)
			}
			next--
		}
		if n := c.Clear(); next != 0 || n != holds || c.Len() != 0 {
			t.Errorf("P8.2: most %d: ends above %d, Clear %d, Len %d", most, next, n, c.Len())
		}
	}
}

func TestPut(t *testing.T) {
	for _, x := range []struct {
		why, want string
		most      int
		keys      []string
	}{
		{"room", "a0 ", 1, []string{"a"}},
		{"room for the last", "b1 a0 ", 2, []string{"a", "b"}},
		{"no room", "b1 ", 1, []string{"a", "b"}},
		{"no room, the oldest goes", "c2 b1 ", 2, []string{"a", "b", "c"}},
		{"the key that is the only one", "a1 ", 1, []string{"a", "a"}},
		{"a key that is the oldest", "a2 b1 ", 2, []string{"a", "b", "a"}},
		{"a key that is the one used last", "b2 a0 ", 2, []string{"a", "b", "b"}},
		{"a key in the middle", "b3 c2 a0 ", 3, []string{"a", "b", "c", "b"}},
		{"the one that was the oldest stays", "c3 a2 ", 2, []string{"a", "b", "a", "c"}},
		{"a key that had to go comes again", "a2 b1 ", 2, []string{"a", "b", "a"}},
		{"a key that had to go comes again, full", "a2 ", 1, []string{"a", "b", "a"}},
	} {
		if s := told(filled(x.most, x.keys...)); s != x.want {
			t.Errorf("P8.2: Put, %s: %s, not %s", x.why, s, x.want)
		}
	}
	c := filled(3, "a", "b", "c")
	if c.Put("a", 0); told(c) != "a0 c2 b1 " {
		t.Errorf("P8.2: Put of the value that it has: %s", told(c))
	}
}

func TestGet(t *testing.T) {
	for _, x := range []struct {
		why, key, want string
		value          int
		ok             bool
	}{
		{"the one used last", "d", "d3 c2 b1 ", 3, true},
		{"the one in the middle", "c", "c2 d3 b1 ", 2, true},
		{"the one at the end", "b", "b1 d3 c2 ", 1, true},
		{"the one that had to go", "a", "d3 c2 b1 ", 0, false},
		{"one that never was", "e", "d3 c2 b1 ", 0, false},
		{"the zero key", "", "d3 c2 b1 ", 0, false},
	} {
		c := filled(3, "a", "b", "c", "d")
		for range 2 {
			if v, ok := c.Get(x.key); v != x.value || ok != x.ok {
				t.Errorf("P8.2: Get, %s: %d %v", x.why, v, ok)
			}
			if s := told(c); s != x.want {
				t.Errorf("P8.2: behind Get, %s: %s, not %s", x.why, s, x.want)
			}
		}
	}
	c := filled(3, "a", "b")
	c.Drop("a")
	if v, ok := c.Get("a"); v != 0 || ok {
		t.Errorf("P8.2: Get of what was dropped: %d %v", v, ok)
	}
	c.Clear()
	if v, ok := c.Get("b"); v != 0 || ok {
		t.Errorf("P8.2: Get of what was cleared: %d %v", v, ok)
	}
}

func TestGetSaves(t *testing.T) {
	c := filled(2, "a", "b")
	c.Get("a")
	c.Get("z")
	if c.Put("c", 2); told(c) != "c2 a0 " {
		t.Errorf("P8.2: what was got ahead of Put went: %s", told(c))
	}
}

func TestDrop(t *testing.T) {
	for _, x := range []struct {
		key, want, oldest string
		ok                bool
	}{
		{"c", "b1 a0 ", "a", true},
		{"b", "c2 a0 ", "a", true},
		{"a", "c2 b1 ", "b", true},
		{"d", "c2 b1 a0 ", "a", false},
		{"", "c2 b1 a0 ", "a", false},
	} {
		c := filled(3, "a", "b", "c")
		if ok := c.Drop(x.key); ok != x.ok {
			t.Errorf("P8.2: Drop %q: %v", x.key, ok)
		}
		if ok := c.Drop(x.key); ok {
			t.Errorf("P8.2: Drop %q again: true", x.key)
		}
		if k, ok := c.Oldest(); told(c) != x.want || k != x.oldest || !ok {
			t.Errorf("P8.2: behind Drop %q: %s, Oldest %q %v", x.key, told(c), k, ok)
		}
		if v, ok := c.Get(x.key); v != 0 || ok {
			t.Errorf("P8.2: Get %q behind its Drop: %d %v", x.key, v, ok)
		}
	}
	c := filled(1, "a")
	if !c.Drop("a") || c.Len() != 0 || told(c) != "" {
		t.Errorf("P8.2: Drop of the only one: %s", told(c))
	}
	if k, ok := c.Oldest(); k != "" || ok {
		t.Errorf("P8.3: Oldest behind Drop of the only one: %q %v", k, ok)
	}
	if c.Put("a", 7); told(c) != "a7 " {
		t.Errorf("P8.2: Put behind Drop: %s", told(c))
	}
}

func TestDropMakesRoom(t *testing.T) {
	c := filled(3, "a", "b", "c")
	c.Drop("b")
	if c.Put("d", 3); told(c) != "d3 c2 a0 " {
		t.Errorf("P8.4: one went though there was room: %s", told(c))
	}
	if c.Put("e", 4); told(c) != "e4 d3 c2 " {
		t.Errorf("P8.2: behind the last room: %s", told(c))
	}
}

func TestClear(t *testing.T) {
	c := cache.New[string, int](3)
	if n := c.Clear(); n != 0 {
		t.Errorf("P8.2: Clear of nothing: %d", n)
	}
	for n, keys := range [][]string{{}, {"a"}, {"a", "b"}, {"a", "b", "c"}} {
		for i, k := range keys {
			c.Put(k, i)
		}
		if got, again := c.Clear(), c.Clear(); got != n || again != 0 {
			t.Errorf("P8.2: Clear of %d: %d, and %d", n, got, again)
		}
		if c.Len() != 0 || told(c) != "" || c.Drop("a") {
			t.Errorf("P8.2: behind Clear: %s", told(c))
		}
		if k, ok := c.Oldest(); k != "" || ok {
			t.Errorf("P8.3: Oldest behind Clear: %q %v", k, ok)
		}
	}
	for i, k := range []string{"d", "a", "e", "f"} {
		c.Put(k, i)
	}
	if s := told(c); s != "f3 e2 a1 " {
		t.Errorf("P8.1: Clear changed how many are held: %s", s)
	}
	c = filled(2, "a", "b", "c", "d")
	if n := c.Clear(); n != 2 {
		t.Errorf("P8.2: Clear counts what had to go: %d", n)
	}
}
