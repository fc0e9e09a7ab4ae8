package packet

import "crier/api"

// What a kind may have, a bit a field.
const (
	hasLevel = 1 << iota
	hasClean
	hasKeepAlive
	hasClient
	hasWillMark
	hasWill
	hasUserMark
	hasUser
	hasPassMark
	hasPass
	hasPresent
	hasCode
	hasDup
	hasMsg
	hasID
	hasAsks
	hasCodes
	hasFilters

	hasList = hasAsks | hasCodes | hasFilters
)

// form: a kind's name, the flags that all its packets have, and the fields that they may have.
type form struct {
	name          string
	flags, fields int
}

var kinds = [api.Disconnect + 1]form{
	api.Connect: {"Connect", 0, hasLevel | hasClean | hasKeepAlive | hasClient |
		hasWillMark | hasWill | hasUserMark | hasUser | hasPassMark | hasPass},
	api.Connack:     {"Connack", 0, hasPresent | hasCode},
	api.Publish:     {"Publish", 0, hasDup | hasMsg | hasID},
	api.Puback:      {"Puback", 0, hasID},
	api.Pubrec:      {"Pubrec", 0, hasID},
	api.Pubrel:      {"Pubrel", 2, hasID},
	api.Pubcomp:     {"Pubcomp", 0, hasID},
	api.Subscribe:   {"Subscribe", 2, hasID | hasAsks},
	api.Suback:      {"Suback", 0, hasID | hasCodes},
	api.Unsubscribe: {"Unsubscribe", 2, hasID | hasFilters},
	api.Unsuback:    {"Unsuback", 0, hasID},
	api.Pingreq:     {"Pingreq", 0, 0},
	api.Pingresp:    {"Pingresp", 0, 0},
	api.Disconnect:  {"Disconnect", 0, 0},
}

// Name tells a kind's name.
func Name(kind int) string {
	if !isKind(kind) {
		return ""
	}
	return kinds[kind].name
}

func isKind(kind int) bool { return kind >= api.Connect && kind <= api.Disconnect }

// fields tells which fields a packet has: those of its kind, but for those that its own marks or its quality take away.
func fields(p api.Packet) int {
	had := kinds[p.Kind].fields
	return had &^ (mark(!p.HasWill, hasWill) |
		mark(!p.HasUser, hasUser) |
		mark(!p.HasPass, hasPass) |
		mark(p.Kind == api.Publish && p.Msg.QoS == 0, hasID))
}

// given tells which fields of a packet aren't zero.
func given(p api.Packet) int {
	return mark(p.Level != 0, hasLevel) |
		mark(p.Clean, hasClean) |
		mark(p.KeepAlive != 0, hasKeepAlive) |
		mark(p.Client != "", hasClient) |
		mark(p.HasWill, hasWillMark) |
		mark(!sameMessage(p.Will, api.Message{}), hasWill) |
		mark(p.HasUser, hasUserMark) |
		mark(p.User != "", hasUser) |
		mark(p.HasPass, hasPassMark) |
		mark(len(p.Pass) > 0, hasPass) |
		mark(p.Present, hasPresent) |
		mark(p.Code != 0, hasCode) |
		mark(p.Dup, hasDup) |
		mark(!sameMessage(p.Msg, api.Message{}), hasMsg) |
		mark(p.ID != 0, hasID) |
		mark(len(p.Asks) > 0, hasAsks) |
		mark(len(p.Codes) > 0, hasCodes) |
		mark(len(p.Filters) > 0, hasFilters)
}

// mark answers the bit, if it is so.
func mark(is bool, bit int) int {
	if is {
		return bit
	}
	return 0
}
