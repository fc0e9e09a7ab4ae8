package cache_test

import (
	"slices"
	"strconv"
	"testing"

	"crier/cache"
)

// pair: an entry, as All gives it.
type pair[K comparable, V any] struct {
	key   K
	value V
}

// model: what a cache holds, as P8.1 to P8.3 say it: a plain list in the order, the one used last first.
type model[K comparable, V any] struct {
	most  int
	pairs []pair[K, V]
}

func (m *model[K, V]) place(k K) int {
	return slices.IndexFunc(m.pairs, func(p pair[K, V]) bool { return p.key == k })
}

func (m *model[K, V]) get(k K) (V, bool) {
	i := m.place(k)
	if i < 0 {
		var none V
		return none, false
	}
	p := m.pairs[i]
	m.put(p.key, p.value)
	return p.value, true
}

func (m *model[K, V]) put(k K, v V) {
	m.drop(k)
	m.pairs = slices.Insert(m.pairs, 0, pair[K, V]{k, v})
	if len(m.pairs) > m.most {
		m.pairs = m.pairs[:len(m.pairs)-1]
	}
}

func (m *model[K, V]) drop(k K) bool {
	i := m.place(k)
	if i < 0 {
		return false
	}
	m.pairs = slices.Delete(m.pairs, i, i+1)
	return true
}

func (m *model[K, V]) clear() int {
	n := len(m.pairs)
	m.pairs = nil
	return n
}

func (m *model[K, V]) oldest() (K, bool) {
	if len(m.pairs) == 0 {
		var none K
		return none, false
	}
	return m.pairs[len(m.pairs)-1].key, true
}

// listed: what All gives.
func listed[K comparable, V any](c *cache.Cache[K, V]) []pair[K, V] {
	var out []pair[K, V]
	for k, v := range c.All() {
		out = append(out, pair[K, V]{k, v})
	}
	return out
}

// told: a cache of texts and numbers as one text, the one used last first.
func told(c *cache.Cache[string, int]) string {
	s := ""
	for k, v := range c.All() {
		s += k + strconv.Itoa(v) + " "
	}
	return s
}

// filled: a cache that holds at most most, in which the keys were put one behind the other, each with its place as its value.
func filled(most int, keys ...string) *cache.Cache[string, int] {
	c := cache.New[string, int](most)
	for i, k := range keys {
		c.Put(k, i)
	}
	return c
}

// alike holds what a cache tells of itself against the model.
func alike[K, V comparable](t *testing.T, c *cache.Cache[K, V], m *model[K, V], when any) {
	t.Helper()
	if n := c.Len(); n != len(m.pairs) {
		t.Fatalf("P8.3: %v: Len %d, not %d", when, n, len(m.pairs))
	}
	k, ok := c.Oldest()
	if wk, wok := m.oldest(); k != wk || ok != wok {
		t.Fatalf("P8.3: %v: Oldest %v %v, not %v %v", when, k, ok, wk, wok)
	}
	if l := listed(c); !slices.Equal(l, m.pairs) {
		t.Fatalf("P8.1: %v: All %v, not %v", when, l, m.pairs)
	}
}
