package audit

import (
	"slices"

	"crier/api"
	"crier/topic"
	"crier/window"
)

// Faults tells what can't be in an image.
func Faults(im api.Image) []api.Fault {
	var l []api.Fault
	at := 0
	tell := func(e api.Errno, wrong bool) {
		if wrong {
			l = append(l, api.Fault{At: at, Err: e})
		}
	}
	for i, s := range im.Sessions {
		tell(api.ErrAuditOrder, i > 0 && s.Client <= im.Sessions[i-1].Client || !filtersRise(s.Subs) || !numbersRise(s.Inbox))
		tell(api.ErrAuditText, !isName(s.Client))
		tell(api.ErrAuditFilter, slices.ContainsFunc(s.Subs, isNoSub))
		tell(api.ErrAuditMessage, slices.ContainsFunc(s.Window.Flight, isNoFlight) || slices.ContainsFunc(s.Window.Queue, isNoMessage))
		tell(api.ErrAuditWindow, !isWindow(s.Window))
		tell(api.ErrAuditInbox, slices.ContainsFunc(s.Inbox, isNoID))
		at++
	}
	for i, m := range im.Retained {
		tell(api.ErrAuditOrder, i > 0 && topic.Compare(im.Retained[i-1].Topic, m.Topic) >= 0)
		tell(api.ErrAuditMessage, isNoRetained(m))
		at++
	}
	return l
}

// filtersRise tells whether each filter stands behind the one ahead of it.
func filtersRise(l []api.Ask) bool {
	for i := 1; i < len(l); i++ {
		if topic.Compare(l[i-1].Filter, l[i].Filter) >= 0 {
			return false
		}
	}
	return true
}

// numbersRise tells whether each number is above the one ahead of it.
func numbersRise(l []int) bool {
	for i := 1; i < len(l); i++ {
		if l[i-1] >= l[i] {
			return false
		}
	}
	return true
}

// isName tells whether a text may be a client's name: that is as a topic, but that signs may stand in it.
func isName(s string) bool {
	e := topic.Check(s)
	return e == api.OK || e == api.ErrTopicWild
}

func isNoSub(a api.Ask) bool { return topic.CheckFilter(a.Filter) != api.OK || !isQoS(a.QoS) }

// isNoFlight tells whether a message under way can't be. Of a released one there is no message.
func isNoFlight(f api.Flight) bool { return !f.Released && isNoMessage(f.Msg) }

// isNoMessage tells whether a message can't be in a window.
func isNoMessage(m api.Message) bool {
	return m.QoS == 0 || !isQoS(m.QoS) || topic.Check(m.Topic) != api.OK
}

// isWindow tells whether a window is one, whatever its messages are: they are a fault of their own. So it is asked of a copy, in which all of them are such as a window takes.
func isWindow(w api.Window) bool {
	flights := slices.Clone(w.Flight)
	for i, f := range flights {
		if !f.Released {
			flights[i].Msg = api.Message{QoS: maxQoS}
		}
	}
	_, e := window.Of(api.MaxWindow, api.MaxQueue, api.Window{Last: w.Last, Flight: flights})
	return e == api.OK
}

func isNoID(id int) bool { return id < 1 || id > api.MaxID }

func isNoRetained(m api.Message) bool {
	return topic.Check(m.Topic) != api.OK || !isQoS(m.QoS) || len(m.Payload) == 0 || !m.Retain
}
