package image

import (
	"crier/api"
	"crier/packet"
	"crier/topic"
	"crier/window"
	"crier/wire"
)

// Check tells what can't be in an image.
func Check(m api.Image) (int, api.Errno) {
	if len(m.Sessions) > api.MaxSessions || len(m.Retained) > api.MaxRetained || m.Autos < 0 || m.Autos > api.MaxAutos {
		return 0, api.ErrImageMany
	}
	ahead := "" // each name is above it but the empty one, which is none
	for i, s := range m.Sessions {
		if e := checkSession(s, ahead); e != api.OK {
			return i, e
		}
		ahead = s.Client
	}
	for i, x := range m.Retained {
		if !isRetained(x) || i > 0 && topic.Compare(m.Retained[i-1].Topic, x.Topic) >= 0 {
			return len(m.Sessions) + i, api.ErrImageRetained
		}
	}
	return 0, api.OK
}

// checkSession tells what can't be in a session behind one of the client ahead.
func checkSession(s api.Session, ahead string) api.Errno {
	switch {
	case !isText(s.Client) || s.Client <= ahead:
		return api.ErrImageClient
	case len(s.Subs) > api.MaxSubs:
		return api.ErrImageMany
	case !areSubs(s.Subs):
		return api.ErrImageSubs
	case !isWindow(s.Window):
		return api.ErrImageWindow
	case !isInbox(s.Inbox):
		return api.ErrImageInbox
	}
	return api.OK
}

func isText(s string) bool {
	_, e := wire.Check(s)
	return e == api.OK
}

func areSubs(l []api.Ask) bool {
	for i, a := range l {
		if topic.CheckFilter(a.Filter) != api.OK || a.QoS < 0 || a.QoS > 2 {
			return false
		}
		if i > 0 && topic.Compare(l[i-1].Filter, a.Filter) >= 0 {
			return false
		}
	}
	return true
}

// isWindow tells whether a window is one, with messages that can be: the window itself takes any topic and any payload.
func isWindow(w api.Window) bool {
	if _, e := window.Of(api.MaxWindow, api.MaxQueue, w); e != api.OK {
		return false
	}
	for _, f := range w.Flight {
		if !f.Released && !canBe(f.Msg) {
			return false
		}
	}
	for _, m := range w.Queue {
		if !canBe(m) {
			return false
		}
	}
	return true
}

// isInbox tells whether these are packet numbers that rise.
func isInbox(l []int) bool {
	ahead := 0
	for _, id := range l {
		if id <= ahead || id > api.MaxID {
			return false
		}
		ahead = id
	}
	return true
}

func isRetained(m api.Message) bool {
	return canBe(m) && len(m.Payload) > 0 && m.Retain
}

// canBe tells whether a message fits a packet.
func canBe(m api.Message) bool {
	p := api.Packet{Kind: api.Publish, Msg: m}
	if m.QoS != 0 {
		p.ID = 1
	}
	return packet.Check(p) == api.OK
}
