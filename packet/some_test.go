package packet_test

import (
	"fmt"
	"math/rand"
	"reflect"

	"crier/api"
)

// told: a packet as a short text.
func told(p api.Packet) string {
	s := fmt.Sprintf("{Kind:%d", p.Kind)
	v := reflect.ValueOf(p)
	for i := 1; i < v.NumField(); i++ {
		if f := v.Field(i); !zero(f) {
			s += " " + v.Type().Field(i).Name + ":" + short(f)
		}
	}
	return s + "}"
}

func short(v reflect.Value) string {
	if m, ok := v.Interface().(api.Message); ok {
		return fmt.Sprintf("{%.20q %d bytes QoS %d Retain %t}", m.Topic, len(m.Payload), m.QoS, m.Retain)
	}
	if v.Kind() == reflect.Slice && v.Len() > 8 {
		return fmt.Sprintf("%d elements", v.Len())
	}
	s := fmt.Sprintf("%v", v.Interface())
	return fmt.Sprintf("%.60q", s)
}

func pick[T any](r *rand.Rand, l ...T) T { return l[r.Intn(len(l))] }

func someMessage(r *rand.Rand) api.Message {
	payload := make([]byte, r.Intn(4), 8)
	r.Read(payload)
	return api.Message{Topic: pick(r, "a", "a/b", "/", "é", "$a"), Payload: payload, QoS: r.Intn(3), Retain: r.Intn(2) == 0}
}

// somePacket: a right packet.
func somePacket(r *rand.Rand) api.Packet {
	p := api.Packet{Kind: 1 + r.Intn(14)}
	switch p.Kind {
	case api.Connect:
		p.Level, p.Clean, p.KeepAlive, p.Client = pick(r, 0, 4, 255), r.Intn(2) == 0, pick(r, 0, 60, 65535), pick(r, "", "c", "é")
		if r.Intn(2) == 0 {
			p.HasWill, p.Will = true, someMessage(r)
		}
		if r.Intn(2) == 0 {
			p.HasUser, p.User = true, pick(r, "", "u")
			if r.Intn(2) == 0 {
				p.HasPass, p.Pass = true, someMessage(r).Payload
			}
		}
	case api.Connack:
		p.Code = pick(r, 0, 1, 255)
		p.Present = p.Code == 0 && r.Intn(2) == 0
	case api.Publish:
		p.Msg = someMessage(r)
		if p.Msg.QoS > 0 {
			p.Dup = r.Intn(2) == 0
		}
	case api.Subscribe:
		for range 1 + r.Intn(3) {
			p.Asks = append(p.Asks, api.Ask{Filter: pick(r, "a", "+", "#", "a/+/b", "a/#"), QoS: r.Intn(3)})
		}
	case api.Suback:
		for range 1 + r.Intn(4) {
			p.Codes = append(p.Codes, pick(r, 0, 1, 2, 128))
		}
	case api.Unsubscribe:
		for range 1 + r.Intn(3) {
			p.Filters = append(p.Filters, pick(r, "a", "+", "#", "a/+/b", "a/#"))
		}
	}
	if had(p, "ID") {
		p.ID = pick(r, 1, 2, 256, 65535)
	}
	return p
}

// bent: the packet with some of its fields made others, perhaps none.
func bent(r *rand.Rand, p api.Packet) api.Packet {
	v := reflect.ValueOf(&p).Elem()
	for range r.Intn(3) {
		f := v.Field(r.Intn(v.NumField()))
		f.Set(someValue(r, f.Type()))
	}
	return p
}

func someValue(r *rand.Rand, t reflect.Type) reflect.Value {
	text := pick(r, "", "a", "a/+", "+a", "#", "#/", "\x00", "\xFF")
	var v any
	switch reflect.Zero(t).Interface().(type) {
	case int:
		v = pick(r, -1, 0, 1, 2, 3, 4, 8, 14, 15, 255, 256, 65535, 65536)
	case bool:
		v = r.Intn(2) == 0
	case string:
		v = text
	case []byte:
		v = pick(r, nil, []byte{}, []byte{1})
	case api.Message:
		v = pick(r, api.Message{}, api.Message{Payload: []byte{}}, api.Message{Topic: text, QoS: r.Intn(5) - 1})
	case []api.Ask:
		v = pick(r, nil, []api.Ask{}, []api.Ask{{Filter: "a"}, {Filter: text, QoS: r.Intn(5) - 1}})
	case []int:
		v = pick(r, nil, []int{}, []int{pick(r, -1, 0, 1, 2, 3, 127, 128, 129)})
	case []string:
		v = pick(r, nil, []string{}, []string{text}, []string{"a", text})
	}
	return reflect.ValueOf(v)
}
