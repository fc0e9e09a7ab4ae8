package packet

import (
	"bytes"
	"slices"

	"crier/api"
)

// heading: what a message has beside its payload, so that == holds all of it at once against another one's.
type heading struct {
	topic  string
	qos    int
	retain bool
}

// plain: what a packet has beside its lists.
type plain struct {
	kind, level, keepAlive, code, id int
	clean, present, dup              bool
	hasWill, hasUser, hasPass        bool
	client, user                     string
	will, msg                        heading
}

// Same tells whether two packets have the same values.
func Same(a, b api.Packet) bool {
	return plainOf(a) == plainOf(b) &&
		bytes.Equal(a.Will.Payload, b.Will.Payload) &&
		bytes.Equal(a.Pass, b.Pass) &&
		bytes.Equal(a.Msg.Payload, b.Msg.Payload) &&
		slices.Equal(a.Asks, b.Asks) &&
		slices.Equal(a.Codes, b.Codes) &&
		slices.Equal(a.Filters, b.Filters)
}

// Copy tells the same packet in new memory.
func Copy(p api.Packet) api.Packet {
	p.Will.Payload = renewed(p.Will.Payload)
	p.Pass = renewed(p.Pass)
	p.Msg.Payload = renewed(p.Msg.Payload)
	p.Asks = renewed(p.Asks)
	p.Codes = renewed(p.Codes)
	p.Filters = renewed(p.Filters)
	return p
}

// renewed answers a list in new memory; slices.Clone would hold an empty one to its old place.
func renewed[T any](l []T) []T { return append([]T(nil), l...) }

func sameMessage(a, b api.Message) bool {
	return headingOf(a) == headingOf(b) && bytes.Equal(a.Payload, b.Payload)
}

func headingOf(m api.Message) heading {
	return heading{topic: m.Topic, qos: m.QoS, retain: m.Retain}
}

func plainOf(p api.Packet) plain {
	return plain{
		kind: p.Kind, level: p.Level, keepAlive: p.KeepAlive, code: p.Code, id: p.ID,
		clean: p.Clean, present: p.Present, dup: p.Dup,
		hasWill: p.HasWill, hasUser: p.HasUser, hasPass: p.HasPass,
		client: p.Client, user: p.User,
		will: headingOf(p.Will), msg: headingOf(p.Msg),
	}
}
