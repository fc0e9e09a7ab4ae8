package codec

import (
	"crier/api"
	"crier/wire"
)

// writeFields lays a right packet's fields behind b.
func writeFields(b []byte, p api.Packet) []byte {
	switch p.Kind {
	case api.Connect:
		return writeConnect(b, p)
	case api.Connack:
		return append(b, mark(p.Present, presentByte), byte(p.Code))
	case api.Publish:
		return writePublish(b, p)
	case api.Pingreq, api.Pingresp, api.Disconnect:
		return b
	}
	return writeLists(putNumber(b, p.ID), p)
}

func writeConnect(b []byte, p api.Packet) []byte {
	b = putText(b, protocol)
	b = append(b, byte(p.Level), marksOf(p))
	b = putNumber(b, p.KeepAlive)
	b = putText(b, p.Client)
	if p.HasWill {
		b = putData(putText(b, p.Will.Topic), p.Will.Payload)
	}
	if p.HasUser {
		b = putText(b, p.User)
	}
	if p.HasPass {
		b = putData(b, p.Pass)
	}
	return b
}

// marksOf tells a Connect's byte of marks.
func marksOf(p api.Packet) byte {
	return mark(p.HasUser, userMark) |
		mark(p.HasPass, passMark) |
		mark(p.Will.Retain, willRetainMark) |
		byte(p.Will.QoS)<<willQoSPlace |
		mark(p.HasWill, willMark) |
		mark(p.Clean, cleanMark)
}

func writePublish(b []byte, p api.Packet) []byte {
	b = putText(b, p.Msg.Topic)
	if p.Msg.QoS > 0 {
		b = putNumber(b, p.ID)
	}
	return append(b, p.Msg.Payload...)
}

// writeLists lays all three lists: those that the kind hasn't are empty.
func writeLists(b []byte, p api.Packet) []byte {
	for _, a := range p.Asks {
		b = append(putText(b, a.Filter), byte(a.QoS))
	}
	for _, c := range p.Codes {
		b = append(b, byte(c))
	}
	for _, f := range p.Filters {
		b = putText(b, f)
	}
	return b
}

// The put calls lay each part by itself: wire's own would copy all that stands ahead of it each time.

func putNumber(b []byte, n int) []byte {
	return append(b, wire.PutNumber(nil, n)...)
}

// putText has no error to tell, as putData hasn't: packet.Check has looked at the packet.
func putText(b []byte, s string) []byte {
	part, _ := wire.PutText(nil, s)
	return append(b, part...)
}

func putData(b, d []byte) []byte {
	part, _ := wire.PutData(nil, d)
	return append(b, part...)
}

// mark answers the bit, if it is so.
func mark(is bool, bit byte) byte {
	if is {
		return bit
	}
	return 0
}
