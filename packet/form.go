package packet

import "crier/api"

// The flags of a Publish.
const (
	retainFlag = 1
	qosFlags   = 6
	dupFlag    = 8

	maxFlags = 15
)

// How many bytes the fields take.
const (
	numberSize  = 2
	textHead    = numberSize // ahead of a text, or of bytes: how many they are
	qosSize     = 1
	connackSize = 2

	// the text MQTT, the level, the marks, the keep-alive
	connectSize = textHead + len("MQTT") + 1 + 1 + numberSize
)

// May tells whether a first byte may be.
func May(kind, flags int) bool {
	if !isKind(kind) {
		return false
	}
	if kind != api.Publish {
		return flags == kinds[kind].flags
	}
	if flags < 0 || flags > maxFlags || flags&qosFlags == qosFlags {
		return false
	}
	return flags&dupFlag == 0 || flags&qosFlags != 0
}

// Flags tells the four flags of a packet's first byte.
func Flags(p api.Packet) int {
	if Check(p) != api.OK {
		return 0
	}
	// The qualities 0 to 2 stand at 2 and 4: one place above the retain mark.
	return kinds[p.Kind].flags | mark(p.Dup, dupFlag) | p.Msg.QoS<<1 | mark(p.Msg.Retain, retainFlag)
}

// Length tells how many bytes follow a packet's length.
func Length(p api.Packet) int {
	if Check(p) != api.OK {
		return 0
	}
	return size(p)
}

// size tells a packet's length where all but that is known to be right.
func size(p api.Packet) int {
	n := 0
	if fields(p)&hasID != 0 {
		n = numberSize
	}
	switch p.Kind {
	case api.Connect:
		return sizeOfConnect(p)
	case api.Connack:
		return connackSize
	case api.Publish:
		return n + textHead + len(p.Msg.Topic) + len(p.Msg.Payload)
	}
	for _, a := range p.Asks {
		n += textHead + len(a.Filter) + qosSize
	}
	for _, f := range p.Filters {
		n += textHead + len(f)
	}
	return n + len(p.Codes)
}

func sizeOfConnect(p api.Packet) int {
	n := connectSize + textHead + len(p.Client)
	if p.HasWill {
		n += textHead + len(p.Will.Topic) + textHead + len(p.Will.Payload)
	}
	if p.HasUser {
		n += textHead + len(p.User)
	}
	if p.HasPass {
		n += textHead + len(p.Pass)
	}
	return n
}
