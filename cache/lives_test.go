package cache_test

import (
	"fmt"
	"math/rand"
	"runtime"
	"testing"
	"weak"

	"crier/cache"
)

// step does one of the 10 things that can be done with 3 keys, in a cache and in the model, and holds the answers against each other.
func step(t *testing.T, c *cache.Cache[int, int], m *model[int, int], what, value int, when any) {
	k := what % 3
	switch what / 3 {
	case 0:
		v, ok := c.Get(k)
		if wv, wok := m.get(k); v != wv || ok != wok {
			t.Fatalf("P8.2: %v: Get %d: %d %v, not %d %v", when, k, v, ok, wv, wok)
		}
	case 1:
		c.Put(k, value)
		m.put(k, value)
	case 2:
		if ok, want := c.Drop(k), m.drop(k); ok != want {
			t.Fatalf("P8.2: %v: Drop %d: %v, not %v", when, k, ok, want)
		}
	default:
		if n, want := c.Clear(), m.clear(); n != want {
			t.Fatalf("P8.2: %v: Clear %d, not %d", when, n, want)
		}
	}
}

// All lives of five steps, in caches that hold at most 0 to 3; the key 0 and the value 0 are among them.
func TestAllShortLives(t *testing.T) {
	const steps = 5
	for most := range 4 {
		for life := range 100000 {
			c := cache.New[int, int](most)
			m := &model[int, int]{most: most}
			rest := life
			for i := range steps {
				step(t, c, m, rest%10, i, [2]int{most, life})
				rest /= 10
			}
			alike(t, c, m, [2]int{most, life})
		}
	}
}

func TestLongLives(t *testing.T) {
	r := rand.New(rand.NewSource(8))
	for _, most := range []int{0, 1, 2, 3, 7, 8, 9, 64, 1000} {
		c := cache.New[string, int](most)
		m := &model[string, int]{most: most}
		for i := range 4000 {
			k := fmt.Sprint(r.Intn(most + most/2 + 3))
			when := fmt.Sprint("most ", most, ", step ", i)
			switch x := r.Intn(1000); {
			case x < 400:
				v, ok := c.Get(k)
				if wv, wok := m.get(k); v != wv || ok != wok {
					t.Fatalf("P8.2: %s: Get %s: %d %v, not %d %v", when, k, v, ok, wv, wok)
				}
			case x < 900:
				c.Put(k, i)
				m.put(k, i)
			case x < 998:
				if ok, want := c.Drop(k), m.drop(k); ok != want {
					t.Fatalf("P8.2: %s: Drop %s: %v", when, k, ok)
				}
			default:
				if n, want := c.Clear(), m.clear(); n != want {
					t.Fatalf("P8.2: %s: Clear %d, not %d", when, n, want)
				}
			}
			if most < 100 || i%50 == 0 {
				alike(t, c, m, when)
			}
		}
		alike(t, c, m, most)
	}
}

// past: what P8.4 needs to know of a key.
type past struct {
	value int
	there bool        // put, and neither dropped nor cleared since
	since map[int]int // the other keys that were used since it was used
}

// What P8.4 says of an answer, reckoned from what was done alone, without an order.
func TestWhatGetMayAnswer(t *testing.T) {
	r := rand.New(rand.NewSource(84))
	for _, most := range []int{0, 1, 2, 5, 20} {
		c := cache.New[int, int](most)
		pasts := map[int]*past{}
		for k := range 30 {
			pasts[k] = &past{since: map[int]int{}}
		}
		used := func(k int) {
			for o, p := range pasts {
				p.since[k] = 1
				if o == k {
					p.since = map[int]int{}
				}
			}
		}
		hits, gone := 0, 0
		for i := range 6000 {
			k := r.Intn(30)
			p := pasts[k]
			switch x := r.Intn(100); {
			case x < 50:
				v, ok := c.Get(k)
				switch {
				case ok && (!p.there || v != p.value):
					t.Fatalf("P8.4: most %d, step %d: Get %d: %d, put was %d (%v)", most, i, k, v, p.value, p.there)
				case !ok && p.there && len(p.since) < most:
					t.Fatalf("P8.4: most %d, step %d: %d went, %d others were used", most, i, k, len(p.since))
				case ok:
					hits++
					used(k)
				case p.there:
					gone++
					p.there = false
				}
			case x < 92:
				c.Put(k, i)
				p.value, p.there = i, true
				used(k)
			case x < 99:
				c.Drop(k)
				p.there = false
			default:
				c.Clear()
				for _, p := range pasts {
					p.there = false
				}
			}
		}
		if most > 0 && (hits == 0 || gone == 0) {
			t.Errorf("P8.4: most %d: %d hits, %d gone", most, hits, gone)
		}
	}
}

// The program of P8.5: it asks, else it reckons and puts; and clears, when the function is another one.
func TestFunctionBehindCache(t *testing.T) {
	r := rand.New(rand.NewSource(85))
	for _, most := range []int{-1, 0, 1, 2, 10, 99, 100, 101, 1 << 30} {
		c := cache.New[int, int](most)
		factor, reckoned := 1, 0
		for i := range 5000 {
			if r.Intn(200) == 0 {
				factor++
				c.Clear()
			}
			k := r.Intn(100)
			v, ok := c.Get(k)
			if !ok {
				reckoned++
				v = k * factor
				c.Put(k, v)
			}
			if v != k*factor {
				t.Fatalf("P8.5: most %d, step %d: %d of %d, not %d", most, i, v, k, k*factor)
			}
		}
		if most >= 10 && reckoned == 5000 {
			t.Errorf("P8.5: most %d: nothing was ever held", most)
		}
		if most >= 100 && reckoned > 100*factor {
			t.Errorf("P8.4: most %d: %d reckoned, of %d functions", most, reckoned, factor)
		}
	}
}

func TestTwoCaches(t *testing.T) {
	a, b := filled(2, "a", "b"), filled(3, "a", "x", "y")
	ia, ib := a.All(), b.All()
	a.Put("a", 7)
	b.Drop("y")
	if told(a) != "a7 b1 " || told(b) != "x1 a0 " {
		t.Errorf("P8.1: two caches touch one another: %s, %s", told(a), told(b))
	}
	for k := range ia {
		for l := range ib {
			if k == "x" || l == "b" {
				t.Errorf("P8.3: two iterators touch one another: %s, %s", k, l)
			}
		}
	}
	if a.Clear() != 2 || told(b) != "x1 a0 " || b.Len() != 2 {
		t.Errorf("P8.2: Clear of one takes of the other: %s", told(b))
	}
}

// What went is held no more: by no entry beside it, and by no map.
func TestWhatWentIsGone(t *testing.T) {
	type thing struct{ room [64]int }
	for _, x := range []struct {
		why string
		do  func(c *cache.Cache[int, *thing])
	}{
		{"put over", func(c *cache.Cache[int, *thing]) { c.Put(1, nil) }},
		{"dropped", func(c *cache.Cache[int, *thing]) { c.Drop(1) }},
		{"dropped and put again", func(c *cache.Cache[int, *thing]) { c.Drop(1); c.Put(1, nil) }},
		{"cleared", func(c *cache.Cache[int, *thing]) { c.Clear() }},
		{"had to go", func(c *cache.Cache[int, *thing]) { c.Put(3, nil); c.Put(4, nil); c.Put(5, nil) }},
	} {
		c := cache.New[int, *thing](3)
		c.Put(0, nil)
		one := &thing{}
		seen := weak.Make(one)
		c.Put(1, one)
		c.Put(2, nil)
		one = nil
		runtime.GC()
		if seen.Value() == nil {
			t.Errorf("P8.4: it went ahead of its time")
		}
		x.do(c)
		runtime.GC()
		if seen.Value() != nil {
			t.Errorf("P8.2: what was %s is still held", x.why)
		}
		runtime.KeepAlive(c)
	}
}
