package codec

import (
	"crier/api"
	"crier/packet"
	"crier/wire"
)

// readHead reads the first byte and the length: how many bytes both take (0: more is needed), and the length.
func readHead(b []byte, most int) (int, int, error) {
	if len(b) == 0 {
		return 0, 0, nil
	}
	if e := checkFirst(b[0]); e != api.OK {
		return 0, 0, fault(0, e)
	}
	n, at := 0, 1
	for ; at <= lengthBytes; at++ {
		if at == len(b) {
			return 0, 0, nil
		}
		n |= int(b[at]&groupMask) << (groupBits * (at - 1))
		if b[at]&moreMark == 0 {
			goto sure
		}
	}
	return 0, 0, fault(lengthBytes, api.ErrWireForm)
sure:
	// Not while groups are missing, however great the first ones are: it may still turn out to be no length at all.
	if n > most {
		return 0, 0, fault(1, api.ErrCodecLong)
	}
	return at + 1, n, nil
}

// checkFirst tells whether a first byte may be.
func checkFirst(first byte) api.Errno {
	kind, flags := split(first)
	if kind < api.Connect || kind > api.Disconnect {
		return api.ErrCodecKind
	}
	if !packet.May(kind, flags) {
		return api.ErrCodecFlags
	}
	return api.OK
}

// split tells a first byte's kind and its flags.
func split(first byte) (kind, flags int) { return int(first >> 4), int(first & 0x0F) }

// readPacket reads a packet of just its bytes, of which head stand ahead of its fields.
func readPacket(b []byte, head int) (api.Packet, error) {
	f := fields{wire.Read(b), len(b)}
	for range head { // taken, not cut off, so that places count from the packet's first byte on
		f.Byte()
	}
	kind, flags := split(b[0])
	p := api.Packet{Kind: kind}
	if err := f.readInto(&p, flags); err != nil {
		return api.Packet{}, err
	}
	if e := packet.Check(p); e != api.OK {
		return api.Packet{}, fault(0, e)
	}
	return p, nil
}

// fields: a reader of a packet's bytes that knows where they end.
type fields struct {
	*wire.Reader
	end int
}

// left tells whether a list goes on.
func (f fields) left() bool { return f.Err() == nil && f.At() < f.end }

// readInto reads all fields of p's kind.
func (f fields) readInto(p *api.Packet, flags int) error {
	switch p.Kind {
	case api.Connect:
		return f.connect(p)
	case api.Connack:
		return f.connack(p)
	case api.Publish:
		f.publish(p, flags)
	case api.Subscribe:
		f.subscribe(p)
	case api.Suback:
		f.suback(p)
	case api.Unsubscribe:
		f.unsubscribe(p)
	case api.Puback, api.Pubrec, api.Pubrel, api.Pubcomp, api.Unsuback:
		p.ID = f.Number()
		fallthrough
	case api.Pingreq, api.Pingresp, api.Disconnect:
		f.End()
	}
	return f.Err()
}

func (f fields) connect(p *api.Packet) error {
	at := f.At()
	name := f.Text()
	if f.Err() == nil && name != protocol {
		return fault(at, api.ErrCodecName)
	}
	p.Level = int(f.Byte())
	at = f.At()
	marks := f.Byte()
	if marks&noMark != 0 || marks&willQoSMarks == willQoSMarks {
		return fault(at, api.ErrCodecMarks)
	}
	takeMarks(p, marks)
	p.KeepAlive = f.Number()
	p.Client = f.Text()
	if p.HasWill {
		p.Will.Topic = f.Text()
		p.Will.Payload = f.Data()
	}
	if p.HasUser {
		p.User = f.Text()
	}
	if p.HasPass {
		p.Pass = f.Data()
	}
	f.End()
	return f.Err()
}

// takeMarks takes all marks, whether their thing is there or not: which go together is packet.Check's business.
func takeMarks(p *api.Packet, marks byte) {
	p.HasUser = marks&userMark != 0
	p.HasPass = marks&passMark != 0
	p.Will.Retain = marks&willRetainMark != 0
	p.Will.QoS = int(marks&willQoSMarks) >> willQoSPlace
	p.HasWill = marks&willMark != 0
	p.Clean = marks&cleanMark != 0
}

func (f fields) connack(p *api.Packet) error {
	at := f.At()
	present := f.Byte()
	if present > presentByte {
		return fault(at, api.ErrCodecMarks)
	}
	p.Present = present == presentByte
	p.Code = int(f.Byte())
	f.End()
	return f.Err()
}

func (f fields) publish(p *api.Packet, flags int) {
	p.Dup = flags&dupFlag != 0
	p.Msg.QoS = (flags & qosFlags) >> qosPlace
	p.Msg.Retain = flags&retainFlag != 0
	p.Msg.Topic = f.Text()
	if p.Msg.QoS > 0 {
		p.ID = f.Number()
	}
	p.Msg.Payload = f.Rest()
}

func (f fields) subscribe(p *api.Packet) {
	p.ID = f.Number()
	for f.left() {
		filter := f.Text()
		p.Asks = append(p.Asks, api.Ask{Filter: filter, QoS: int(f.Byte())})
	}
}

func (f fields) suback(p *api.Packet) {
	p.ID = f.Number()
	codes := f.Rest()
	p.Codes = make([]int, len(codes))
	for i, c := range codes {
		p.Codes[i] = int(c)
	}
}

func (f fields) unsubscribe(p *api.Packet) {
	p.ID = f.Number()
	for f.left() {
		p.Filters = append(p.Filters, f.Text())
	}
}

func fault(at int, e api.Errno) error { return &api.Fault{At: at, Err: e} }
