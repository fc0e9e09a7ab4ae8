package router

import (
	"iter"
	"strings"

	"crier/api"
	"crier/cache"
	"crier/rettrie"
	"crier/subtrie"
	"crier/topic"
)

// tries: a holder by tries, with answers of the one of filters in front of it. An answer that is stored is never handed out, only copies are.
type tries struct {
	subs    *subtrie.Trie
	kept    *rettrie.Trie
	answers *cache.Cache[string, []api.Entry]
}

func newTries(most int) *tries {
	return &tries{subtrie.New(), rettrie.New(), cache.New[string, []api.Entry](most)}
}

func (t *tries) subscribe(key string, a api.Ask) {
	if old, _ := t.subs.Put(a.Filter, key, a.QoS); old != a.QoS {
		t.forget(a.Filter)
	}
}

func (t *tries) unsubscribe(key, filter string) bool {
	was := t.subs.Drop(filter, key)
	if was {
		t.forget(filter)
	}
	return was
}

func (t *tries) leave(key string) int {
	count := t.subs.Leave(key)
	if count > 0 {
		t.answers.Clear()
	}
	return count
}

// forget takes away the answers that may be others by a change at a filter. Without signs it matches one topic alone; else all go, as to hold each one's topic against the filter could take longer than to find those again that are asked for.
func (t *tries) forget(filter string) {
	if topic.Check(filter) == api.OK {
		t.answers.Drop(filter)
		return
	}
	t.answers.Clear()
}

// route looks at the stored answers first: what is there is a topic's.
func (t *tries) route(text string) []api.Entry {
	if stored, ok := t.answers.Get(text); ok {
		return copied(stored)
	}
	if topic.Check(text) != api.OK {
		return nil
	}
	found := t.subs.Find(text)
	t.answers.Put(strings.Clone(text), copied(found))
	return found
}

func (t *tries) filters() int { return t.subs.Len() }

func (t *tries) keep(m api.Message) { t.kept.Put(m) }

func (t *tries) drop(text string) bool { return t.kept.Drop(text) }

func (t *tries) has(text string) bool {
	_, ok := t.kept.Get(text)
	return ok
}

func (t *tries) matching(filter string) iter.Seq[api.Message] { return t.kept.Find(filter) }

func (t *tries) all() iter.Seq[api.Message] { return t.kept.All() }

func (t *tries) messages() int { return t.kept.Len() }

// copied tells entries in memory of their own.
func copied(l []api.Entry) []api.Entry { return append([]api.Entry(nil), l...) }
