package router

import (
	"iter"

	"crier/api"
	"crier/list"
)

// lists: a holder by lists.
type lists struct {
	subs *list.Subs
	kept *list.Kept
}

func newLists() *lists { return &lists{list.NewSubs(), list.NewKept()} }

func (l *lists) subscribe(key string, a api.Ask) { l.subs.Put(a.Filter, key, a.QoS) }

func (l *lists) unsubscribe(key, filter string) bool { return l.subs.Drop(filter, key) }

func (l *lists) leave(key string) int { return l.subs.Leave(key) }

func (l *lists) route(text string) []api.Entry { return l.subs.Find(text) }

func (l *lists) filters() int { return l.subs.Len() }

func (l *lists) keep(m api.Message) { l.kept.Put(m) }

func (l *lists) drop(text string) bool { return l.kept.Drop(text) }

func (l *lists) has(text string) bool {
	_, ok := l.kept.Get(text)
	return ok
}

func (l *lists) matching(filter string) iter.Seq[api.Message] { return l.kept.Find(filter) }

func (l *lists) all() iter.Seq[api.Message] { return l.kept.All() }

func (l *lists) messages() int { return l.kept.Len() }
