package list

import (
	"cmp"
	"iter"
	"slices"
	"strings"

	"crier/api"
	"crier/topic"
)

// none: what Put tells of a key that had no quality.
const none = -1

// Subs: filters and who has them.
type Subs struct{ filters []asked }

// asked: a filter and the entries at it, which are never none. Neither they nor the filters stand in an order: what is told is sorted then.
type asked struct {
	filter  string
	entries []api.Entry
}

// NewSubs makes one that holds nothing.
func NewSubs() *Subs { return &Subs{} }

// Put gives a key a quality at a filter: the one it had, -1: none.
func (s *Subs) Put(filter, key string, qos int) (int, api.Errno) {
	if topic.CheckFilter(filter) != api.OK {
		return 0, api.ErrSubtrieFilter
	}
	if !isQoS(qos) {
		return 0, api.ErrSubtrieQoS
	}
	at := s.place(filter)
	if at < 0 {
		at = len(s.filters)
		s.filters = append(s.filters, asked{filter: strings.Clone(filter)})
	}
	return s.filters[at].note(key, qos), api.OK
}

// Drop takes a key from a filter.
func (s *Subs) Drop(filter, key string) bool {
	at := s.place(filter)
	if at < 0 {
		return false
	}
	i := s.filters[at].place(key)
	if i < 0 {
		return false
	}
	s.forget(at, i)
	return true
}

// Leave takes a key from all filters: how many. It goes from the last one on: where a filter goes, one comes that was asked already.
func (s *Subs) Leave(key string) int {
	count := 0
filters:
	for at := len(s.filters) - 1; at >= 0; at-- {
		for i, e := range s.filters[at].entries {
			if e.Key == key {
				s.forget(at, i)
				count++
				continue filters
			}
		}
	}
	return count
}

// Of tells who is at a filter.
func (s *Subs) Of(filter string) []api.Entry {
	at := s.place(filter)
	if at < 0 {
		return nil
	}
	return s.filters[at].byKey()
}

// Find tells whose filters match a topic.
func (s *Subs) Find(topic string) []api.Entry { return s.find(topic) }

// All gives all filters and who has them.
func (s *Subs) All() iter.Seq2[string, api.Entry] {
	return func(yield func(string, api.Entry) bool) {
		for _, a := range slices.SortedFunc(slices.Values(s.filters), byFilter) {
			for _, e := range a.byKey() {
				if !yield(a.filter, e) {
					return
				}
			}
		}
	}
}

// Len tells how many filters there are.
func (s *Subs) Len() int { return len(s.filters) }

// find tells the keys at all filters that match a text, each with the greatest of its qualities there.
func (s *Subs) find(text string) []api.Entry {
	var found []api.Entry
	for a := range s.matching(text) {
		found = append(found, a.entries...)
	}
	slices.SortFunc(found, byKeyBestFirst)
	return slices.CompactFunc(found, sameKey)
}

// matching gives the filters that match a text, in no order.
func (s *Subs) matching(text string) iter.Seq[asked] {
	return func(yield func(asked) bool) {
	filters:
		for _, a := range s.filters {
			if !topic.Match(a.filter, text) {
				continue filters
			}
			if !yield(a) {
				return
			}
		}
	}
}

// place tells where a filter stands, below 0: nowhere.
func (s *Subs) place(filter string) int {
	for at := range s.filters {
		if s.filters[at].filter == filter {
			return at
		}
	}
	return -1
}

// forget takes away the entry at place i of the filter at a place, and with its last entry the filter.
func (s *Subs) forget(at, i int) {
	a := &s.filters[at]
	a.entries = without(a.entries, i)
	if len(a.entries) == 0 {
		s.filters = without(s.filters, at)
	}
}

// note gives a key a quality, and tells the one it had.
func (a *asked) note(key string, qos int) int {
	i := a.place(key)
	if i < 0 {
		a.entries = append(a.entries, api.Entry{Key: strings.Clone(key), QoS: qos})
		return none
	}
	old := a.entries[i].QoS
	a.entries[i].QoS = qos
	return old
}

// place tells where a key stands, below 0: nowhere.
func (a *asked) place(key string) int {
	for i := range a.entries {
		if a.entries[i].Key == key {
			return i
		}
	}
	return -1
}

// byKey tells the entries by key.
func (a *asked) byKey() []api.Entry {
	return slices.SortedFunc(slices.Values(a.entries), byKeyBestFirst)
}

// byFilter orders filters.
func byFilter(a, b asked) int { return topic.Compare(a.filter, b.filter) }

// byKeyBestFirst orders entries by key, those of one key from the greatest quality down: so the first one of a key is the one to tell.
func byKeyBestFirst(a, b api.Entry) int {
	return cmp.Or(strings.Compare(a.Key, b.Key), cmp.Compare(b.QoS, a.QoS))
}

// sameKey tells whether two entries are of one key.
func sameKey(a, b api.Entry) bool { return a.Key == b.Key }
