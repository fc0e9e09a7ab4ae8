package router_test

import (
	"bytes"
	"cmp"
	"maps"
	"slices"
	"strings"

	"crier/api"
	"crier/rettrie"
	"crier/subtrie"
	"crier/topic"
)

// model: what a router is to hold, as plain as can be, and two tries that hold it too, as those of a router are to stand.
type model struct {
	subs    map[string]map[string]int // by filter, by key
	kept    map[string]api.Message    // by topic
	most    int
	filters *subtrie.Trie
	topics  *rettrie.Trie
}

func newModel(retained int) *model {
	return &model{map[string]map[string]int{}, map[string]api.Message{}, min(max(retained, 0), 1<<20), subtrie.New(), rettrie.New()}
}

func (m *model) subscribe(key string, a api.Ask) api.Errno {
	switch {
	case topic.CheckFilter(a.Filter) != api.OK:
		return api.ErrRouterFilter
	case a.QoS != 0 && a.QoS != 1 && a.QoS != 2:
		return api.ErrRouterQoS
	}
	if m.subs[a.Filter] == nil {
		m.subs[a.Filter] = map[string]int{}
	}
	m.subs[a.Filter][key] = a.QoS
	m.filters.Put(a.Filter, key, a.QoS)
	return api.OK
}

func (m *model) unsubscribe(key, filter string) bool {
	_, was := m.subs[filter][key]
	delete(m.subs[filter], key)
	if len(m.subs[filter]) == 0 {
		delete(m.subs, filter)
	}
	m.filters.Drop(filter, key)
	return was
}

func (m *model) leave(key string) int {
	n := 0
	for _, filter := range slices.Collect(maps.Keys(m.subs)) {
		if m.unsubscribe(key, filter) {
			n++
		}
	}
	return n
}

// route asks each filter.
func (m *model) route(s string) []api.Entry {
	best := map[string]int{}
	for filter, keys := range m.subs {
		if topic.Match(filter, s) {
			for key, qos := range keys {
				best[key] = max(best[key], qos)
			}
		}
	}
	return byKey(best)
}

// byKey tells the entries of some keys, by key.
func byKey(keys map[string]int) []api.Entry {
	var l []api.Entry
	for key, qos := range keys {
		l = append(l, api.Entry{Key: key, QoS: qos})
	}
	slices.SortFunc(l, func(a, b api.Entry) int { return cmp.Compare(a.Key, b.Key) })
	return l
}

func (m *model) retain(one api.Message) (bool, api.Errno) {
	_, was := m.kept[one.Topic]
	switch {
	case topic.Check(one.Topic) != api.OK:
		return false, api.ErrRouterTopic
	case one.QoS != 0 && one.QoS != 1 && one.QoS != 2:
		return false, api.ErrRouterQoS
	case len(one.Payload) == 0:
		delete(m.kept, one.Topic)
		m.topics.Drop(one.Topic)
		return was, api.OK
	case !was && len(m.kept) >= m.most:
		return false, api.OK
	}
	one.Payload, one.Retain = bytes.Clone(one.Payload), true
	m.kept[one.Topic] = one
	m.topics.Put(one)
	return true, api.OK
}

// matching tells what Matching is to give, a line each.
func (m *model) matching(filter string) string {
	return m.which(func(s string) bool { return topic.Match(filter, s) })
}

// retained tells what Retained is to answer, a line each.
func (m *model) retained() string {
	return m.which(func(string) bool { return true })
}

// which tells the messages of some topics, in order, a line each.
func (m *model) which(ok func(s string) bool) string {
	var b strings.Builder
	for _, s := range topic.Sorted(slices.Collect(maps.Keys(m.kept))) {
		if ok(s) {
			b.WriteString(line(m.kept[s]))
		}
	}
	return b.String()
}
