package list

import (
	"bytes"
	"iter"
	"slices"
	"strings"

	"crier/api"
	"crier/topic"
)

// Kept: messages by topic. They stand in no order: what is told is sorted then. A payload that is kept is never written over.
type Kept struct{ messages []api.Message }

// NewKept makes one that holds nothing.
func NewKept() *Kept { return &Kept{} }

// Put keeps a message: was there one of its topic?
func (x *Kept) Put(m api.Message) (bool, api.Errno) {
	if topic.Check(m.Topic) != api.OK {
		return false, api.ErrRettrieTopic
	}
	if !isQoS(m.QoS) {
		return false, api.ErrRettrieQoS
	}
	m = apart(m)
	m.Topic = strings.Clone(m.Topic)
	at := x.place(m.Topic)
	if at < 0 {
		x.messages = append(x.messages, m)
		return false, api.OK
	}
	x.messages[at] = m
	return true, api.OK
}

// Drop takes a topic's message away.
func (x *Kept) Drop(topic string) bool {
	at := x.place(topic)
	if at < 0 {
		return false
	}
	x.messages = without(x.messages, at)
	return true
}

// Get tells a topic's message.
func (x *Kept) Get(topic string) (api.Message, bool) {
	at := x.place(topic)
	if at < 0 {
		return api.Message{}, false
	}
	return apart(x.messages[at]), true
}

// Find gives the messages whose topics a filter matches, in order.
func (x *Kept) Find(filter string) iter.Seq[api.Message] {
	return inOrder(x.matching(filter))
}

// All gives all messages, in order.
func (x *Kept) All() iter.Seq[api.Message] {
	return inOrder(x.each())
}

// Len tells how many messages there are.
func (x *Kept) Len() int { return len(x.messages) }

// each gives the messages as they stand. It looks at the list when it is gone through, not when it is made.
func (x *Kept) each() iter.Seq[api.Message] {
	return func(yield func(api.Message) bool) {
		for _, m := range x.messages {
			if !yield(m) {
				return
			}
		}
	}
}

// matching gives the messages whose topics a text matches, as they stand.
func (x *Kept) matching(filter string) iter.Seq[api.Message] {
	return func(yield func(api.Message) bool) {
	messages:
		for m := range x.each() {
			if !topic.Match(filter, m.Topic) {
				continue messages
			}
			if !yield(m) {
				return
			}
		}
	}
}

// place tells where a topic's message stands, below 0: nowhere.
func (x *Kept) place(topic string) int {
	for at := range x.messages {
		if x.messages[at].Topic == topic {
			return at
		}
	}
	return -1
}

// inOrder gives messages in the order of their topics, each with memory of its own.
func inOrder(messages iter.Seq[api.Message]) iter.Seq[api.Message] {
	return func(yield func(api.Message) bool) {
		for _, m := range slices.SortedFunc(messages, byTopic) {
			if !yield(apart(m)) {
				return
			}
		}
	}
}

// byTopic orders messages by topic.
func byTopic(a, b api.Message) int { return topic.Compare(a.Topic, b.Topic) }

// apart tells a message whose payload is memory of its own.
func apart(m api.Message) api.Message {
	m.Payload = bytes.Clone(m.Payload)
	return m
}
