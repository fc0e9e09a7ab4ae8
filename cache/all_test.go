package cache_test

import (
	"slices"
	"testing"

	"crier/cache"
)

func TestOldest(t *testing.T) {
	c := filled(3, "a")
	if k, ok := c.Oldest(); k != "a" || !ok {
		t.Errorf("P8.3: Oldest of one: %q %v", k, ok)
	}
	c.Put("b", 1)
	if k, ok := c.Oldest(); k != "a" || !ok {
		t.Errorf("P8.3: Oldest of two: %q %v", k, ok)
	}
	c.Get("a")
	if k, ok := c.Oldest(); k != "b" || !ok {
		t.Errorf("P8.3: Oldest behind a Get of it: %q %v", k, ok)
	}
}

func TestAsksChangeNothing(t *testing.T) {
	c := filled(3, "a", "b", "c")
	for range 3 {
		c.Len()
		c.Oldest()
		for range c.All() {
		}
		for k := range c.All() {
			if k == "b" {
				break
			}
		}
		if s := told(c); s != "c2 b1 a0 " {
			t.Fatalf("P8.3: the order is another one: %s", s)
		}
	}
	if c.Put("d", 3); told(c) != "d3 c2 b1 " {
		t.Errorf("P8.3: Oldest or All used an entry: %s", told(c))
	}
}

func TestAllLeftEarly(t *testing.T) {
	c := filled(5, "a", "b", "c", "d", "e")
	want := listed(c)
	all := c.All()
	for n := range 6 {
		for range 2 {
			var got []pair[string, int]
			all(func(k string, v int) bool {
				if len(got) == n {
					return false
				}
				got = append(got, pair[string, int]{k, v})
				return true
			})
			if !slices.Equal(got, want[:n]) {
				t.Errorf("P8.3: left behind %d: %v", n, got)
			}
		}
	}
	for stop := range 5 {
		calls := 0
		all(func(string, int) bool {
			calls++
			return calls <= stop
		})
		if calls != stop+1 {
			t.Errorf("P8.3: asked %d times, left at %d", calls, stop+1)
		}
	}
}

func TestAllWithinAll(t *testing.T) {
	c := filled(4, "a", "b", "c", "d")
	want := listed(c)
	all := c.All()
	i := 0
	for k, v := range all {
		if (pair[string, int]{k, v}) != want[i] {
			t.Fatalf("P8.3: outer, place %d: %s %d", i, k, v)
		}
		j := 0
		for k, v := range all {
			if (pair[string, int]{k, v}) != want[j] {
				t.Fatalf("P8.3: inner, place %d: %s %d", j, k, v)
			}
			j++
			if j > i {
				break
			}
		}
		if j != i+1 || !slices.Equal(listed(c), want) {
			t.Fatalf("P8.3: inner gives %d", j)
		}
		i++
	}
	if i != len(want) {
		t.Errorf("P8.3: outer gives %d", i)
	}
}

// What All gives is what the cache holds when it is gone through, not when it was asked for.
func TestAllTakenEarlier(t *testing.T) {
	c := cache.New[string, int](2)
	all := c.All()
	told := func() string {
		s := ""
		for k := range all {
			s += k
		}
		return s
	}
	if s := told(); s != "" {
		t.Errorf("P8.3: All of nothing: %s", s)
	}
	for _, x := range []struct {
		what string
		do   func()
		want string
	}{
		{"Put a", func() { c.Put("a", 1) }, "a"},
		{"Put b", func() { c.Put("b", 1) }, "ba"},
		{"Put c", func() { c.Put("c", 1) }, "cb"},
		{"Get b", func() { c.Get("b") }, "bc"},
		{"Drop b", func() { c.Drop("b") }, "c"},
		{"Clear", func() { c.Clear() }, ""},
		{"Put d", func() { c.Put("d", 1) }, "d"},
	} {
		if x.do(); told() != x.want {
			t.Errorf("P8.3: All, behind %s: %s, not %s", x.what, told(), x.want)
		}
	}
}

func TestAllOfEmptyAsksNobody(t *testing.T) {
	for _, c := range []*cache.Cache[string, int]{filled(0, "a"), filled(3), filled(-1, "a", "b")} {
		all := c.All()
		if all == nil {
			t.Fatalf("P8.3: All is nil")
		}
		for range all {
			t.Errorf("P8.3: All of nothing gives something")
		}
	}
}

// A change while All is gone through isn't foreseen: but even then every call ends, and the cache stands behind it as it should.
func TestAllEndsThoughChanged(t *testing.T) {
	for _, x := range []struct {
		what string
		do   func(c *cache.Cache[string, int], k string)
		want string
	}{
		{"Get", func(c *cache.Cache[string, int], k string) { c.Get(k) }, ""},
		{"Put", func(c *cache.Cache[string, int], k string) { c.Put(k+"x", 1) }, ""},
		{"Drop", func(c *cache.Cache[string, int], k string) { c.Drop(k) }, " "},
		{"Clear", func(c *cache.Cache[string, int], k string) { c.Clear() }, " "},
		{"Clear, Put", func(c *cache.Cache[string, int], k string) { c.Clear(); c.Put(k, 1) }, ""},
	} {
		c := filled(4, "a", "b", "c", "d")
		steps := 0
		for k := range c.All() {
			if x.do(c, k); steps > 4 {
				t.Fatalf("P8.3: %s within All: it doesn't end", x.what)
			}
			steps++
		}
		if got := told(c); x.want == " " && got != "" {
			t.Errorf("P8.2: %s of all within All: %s", x.what, got)
		}
		c.Clear()
		c.Put("y", 1)
		c.Put("z", 2)
		if got := told(c); got != "z2 y1 " {
			t.Errorf("P8.2: behind %s within All: %s", x.what, got)
		}
	}
}
