package packet_test

import (
	"math"
	"math/rand"
	"reflect"
	"strings"
	"testing"
	"unicode/utf8"

	"crier/api"
	"crier/packet"
)

// fieldsOf: the fields of each kind, as P2.1 lists them; those that hang on another one are taken away by had.
var fieldsOf = map[int]string{
	api.Connect:     "Level Clean KeepAlive Client HasWill HasUser HasPass Will User Pass",
	api.Connack:     "Present Code",
	api.Publish:     "Dup Msg ID",
	api.Puback:      "ID",
	api.Pubrec:      "ID",
	api.Pubrel:      "ID",
	api.Pubcomp:     "ID",
	api.Subscribe:   "ID Asks",
	api.Suback:      "ID Codes",
	api.Unsubscribe: "ID Filters",
	api.Unsuback:    "ID",
	api.Pingreq:     "",
	api.Pingresp:    "",
	api.Disconnect:  "",
}

// had: whether a packet has a field.
func had(p api.Packet, field string) bool {
	switch {
	case field == "Kind":
		return true
	case field == "Will" && !p.HasWill, field == "User" && !p.HasUser, field == "Pass" && !p.HasPass:
		return false
	case field == "ID" && p.Kind == api.Publish && p.Msg.QoS == 0:
		return false
	}
	for _, f := range strings.Fields(fieldsOf[p.Kind]) {
		if f == field {
			return true
		}
	}
	return false
}

// zero: whether a value is, a list without elements being so too.
func zero(v reflect.Value) bool {
	switch v.Kind() {
	case reflect.Slice:
		return v.Len() == 0
	case reflect.Struct:
		for i := range v.NumField() {
			if !zero(v.Field(i)) {
				return false
			}
		}
		return true
	}
	return v.IsZero()
}

func stray(p api.Packet) bool {
	v := reflect.ValueOf(p)
	for i := range v.NumField() {
		if !had(p, v.Type().Field(i).Name) && !zero(v.Field(i)) {
			return true
		}
	}
	return false
}

func beyond(n, most int) bool { return n < 0 || n > most }

func text(s string) bool {
	return len(s) <= 65535 && utf8.ValidString(s) && !strings.Contains(s, "\x00")
}

func aTopic(s string) bool { return s != "" && text(s) && !strings.ContainsAny(s, "+#") }

func aFilter(s string) bool {
	levels := strings.Split(s, "/")
	for i, l := range levels {
		if len(l) > 1 && strings.ContainsAny(l, "+#") || l == "#" && i < len(levels)-1 {
			return false
		}
	}
	return s != "" && text(s)
}

func strayFilter(p api.Packet) bool {
	for _, a := range p.Asks {
		if !aFilter(a.Filter) {
			return true
		}
	}
	for _, f := range p.Filters {
		if !aFilter(f) {
			return true
		}
	}
	return false
}

func strayQoS(p api.Packet) bool {
	for _, a := range p.Asks {
		if beyond(a.QoS, 2) {
			return true
		}
	}
	for _, c := range p.Codes {
		if beyond(c, 2) && c != 128 {
			return true
		}
	}
	return p.HasWill && beyond(p.Will.QoS, 2) || p.Kind == api.Publish && beyond(p.Msg.QoS, 2)
}

// bodies: how many bytes each of a packet's fields takes, laid out as DOC.md's table does.
func bodies(p api.Packet) int {
	n := 0
	lay := func(pieces ...int) {
		for _, x := range pieces {
			n += x
		}
	}
	switch p.Kind {
	case api.Connect:
		lay(2, 4, 1, 1, 2, 2, len(p.Client))
		if p.HasWill {
			lay(2, len(p.Will.Topic), 2, len(p.Will.Payload))
		}
		if p.HasUser {
			lay(2, len(p.User))
		}
		if p.HasPass {
			lay(2, len(p.Pass))
		}
	case api.Connack:
		lay(1, 1)
	case api.Publish:
		lay(2, len(p.Msg.Topic), len(p.Msg.Payload))
		if p.Msg.QoS > 0 {
			lay(2)
		}
	case api.Pingreq, api.Pingresp, api.Disconnect:
	default:
		lay(2, len(p.Codes))
		for _, a := range p.Asks {
			lay(2, len(a.Filter), 1)
		}
		for _, f := range p.Filters {
			lay(2, len(f))
		}
	}
	return n
}

// wanted: what P2.2 asks of Check.
func wanted(p api.Packet) api.Errno {
	lists := map[int]int{api.Subscribe: len(p.Asks), api.Suback: len(p.Codes), api.Unsubscribe: len(p.Filters)}
	length, list := lists[p.Kind]
	switch {
	case p.Kind < 1 || p.Kind > 14:
		return api.ErrPacketKind
	case stray(p), beyond(p.Level, 255), beyond(p.Code, 255), beyond(p.KeepAlive, 65535):
		return api.ErrPacketField
	case !text(p.Client), !text(p.User):
		return api.ErrPacketText
	case p.HasWill && !aTopic(p.Will.Topic), p.Kind == api.Publish && !aTopic(p.Msg.Topic):
		return api.ErrPacketTopic
	case strayFilter(p):
		return api.ErrPacketFilter
	case strayQoS(p):
		return api.ErrPacketQoS
	case had(p, "ID") && (p.ID < 1 || p.ID > 65535):
		return api.ErrPacketID
	case len(p.Will.Payload) > 65535, len(p.Pass) > 65535, bodies(p) > 268435455:
		return api.ErrPacketSize
	case list && length == 0:
		return api.ErrPacketEmpty
	case p.HasPass && !p.HasUser, p.Dup && p.Msg.QoS == 0, p.Present && p.Code != 0:
		return api.ErrPacketMarks
	}
	return api.OK
}

func holdCheck(t *testing.T, promise string, p api.Packet) {
	t.Helper()
	if e, want := packet.Check(p), wanted(p); e != want {
		t.Errorf("%s: Check of %s: %d, want %d", promise, told(p), e, want)
	}
}

// plainest: a right packet of each kind, all its fields given.
func plainest(kind int) api.Packet {
	will := api.Message{Topic: "w", Payload: []byte{1}, QoS: 2, Retain: true}
	switch kind {
	case api.Connect:
		return api.Packet{Kind: kind, Level: 4, Clean: true, KeepAlive: 60, Client: "c", HasWill: true, Will: will, HasUser: true, User: "u", HasPass: true, Pass: []byte{2}}
	case api.Connack:
		return api.Packet{Kind: kind, Code: 5}
	case api.Publish:
		return api.Packet{Kind: kind, Dup: true, Msg: api.Message{Topic: "a", Payload: []byte{1, 2, 3}, QoS: 1, Retain: true}, ID: 7}
	case api.Subscribe:
		return api.Packet{Kind: kind, ID: 7, Asks: []api.Ask{{Filter: "a/#", QoS: 1}, {Filter: "+", QoS: 0}}}
	case api.Suback:
		return api.Packet{Kind: kind, ID: 7, Codes: []int{0, 1, 2, 128}}
	case api.Unsubscribe:
		return api.Packet{Kind: kind, ID: 7, Filters: []string{"a/#", "+"}}
	case api.Pingreq, api.Pingresp, api.Disconnect:
		return api.Packet{Kind: kind}
	}
	return api.Packet{Kind: kind, ID: 7}
}

// P2.2: of each kind a right packet; kinds that there aren't.
func TestCheckKinds(t *testing.T) {
	for kind := 1; kind <= 14; kind++ {
		if e := packet.Check(plainest(kind)); e != api.OK {
			t.Errorf("P2.2: Check of %s: %d", told(plainest(kind)), e)
		}
	}
	for _, kind := range []int{0, -1, 15, 16, 1 << 40, math.MinInt, math.MaxInt} {
		for _, p := range []api.Packet{{Kind: kind}, {Kind: kind, ID: 7, Level: -1, Client: "\x00"}} {
			if e := packet.Check(p); e != api.ErrPacketKind {
				t.Errorf("P2.2: Check of %s: %d, want ErrPacketKind", told(p), e)
			}
		}
	}
}

// values: for each field some values that aren't zero.
var values = map[string][]any{
	"Level":     {1, -1},
	"Clean":     {true},
	"KeepAlive": {1, -1},
	"Client":    {"c"},
	"HasWill":   {true},
	"Will":      {api.Message{Topic: "w"}, api.Message{QoS: 1}, api.Message{Retain: true}, api.Message{Payload: []byte{0}}},
	"HasUser":   {true},
	"User":      {"u"},
	"HasPass":   {true},
	"Pass":      {[]byte{0}},
	"Present":   {true},
	"Code":      {1, -1},
	"Dup":       {true},
	"Msg":       {api.Message{Topic: "w"}, api.Message{QoS: 1}, api.Message{Retain: true}, api.Message{Payload: []byte{0}}},
	"ID":        {1, -1},
	"Asks":      {[]api.Ask{{Filter: "a"}}, []api.Ask{{}}},
	"Codes":     {[]int{0}},
	"Filters":   {[]string{"a"}, []string{""}},
}

func set(p *api.Packet, field string, value any) {
	reflect.ValueOf(p).Elem().FieldByName(field).Set(reflect.ValueOf(value))
}

// P2.1: a field that its kind hasn't is told, whichever it is; one that it has is not.
func TestFieldsOfKinds(t *testing.T) {
	if len(values) != reflect.TypeFor[api.Packet]().NumField()-1 {
		t.Fatal("a field has no values here")
	}
	for kind := 1; kind <= 14; kind++ {
		for field, vs := range values {
			for _, v := range vs {
				p := plainest(kind)
				set(&p, field, v)
				e := packet.Check(p)
				if !had(p, field) && e != api.ErrPacketField {
					t.Errorf("P2.1: Check of %s: %d, want ErrPacketField", told(p), e)
				}
				holdCheck(t, "P2.1", p)
			}
		}
	}
}

// P2.1: what a mark, or the quality, takes away.
func TestFieldsThatHangOnOthers(t *testing.T) {
	for _, field := range []string{"Will", "User", "Pass"} {
		p := plainest(api.Connect)
		set(&p, "Has"+field, false)
		if e := packet.Check(p); e != api.ErrPacketField {
			t.Errorf("P2.1: a %s without Has%s: %d", field, field, e)
		}
		set(&p, field, reflect.Zero(reflect.TypeOf(p).FieldByIndex(index(field)).Type).Interface())
		holdCheck(t, "P2.1", p)
	}
	for qos := -1; qos <= 3; qos++ {
		for id := -1; id <= 1; id++ {
			p := plainest(api.Publish)
			p.Dup, p.Msg.QoS, p.ID = false, qos, id
			holdCheck(t, "P2.1", p)
		}
	}
}

func index(field string) []int {
	f, _ := reflect.TypeFor[api.Packet]().FieldByName(field)
	return f.Index
}

// P2.2, and rule 2: a list without elements is zero, whether it is nil or not.
func TestEmptyListsAreZero(t *testing.T) {
	for kind := 1; kind <= 14; kind++ {
		p := plainest(kind)
		for _, field := range []string{"Pass", "Asks", "Codes", "Filters"} {
			v := reflect.ValueOf(&p).Elem().FieldByName(field)
			if v.Len() == 0 {
				v.Set(reflect.MakeSlice(v.Type(), 0, 3))
			}
		}
		if kind != api.Connect {
			p.Will.Payload = []byte{}
		}
		if kind != api.Publish {
			p.Msg.Payload = []byte{}
		}
		if e := packet.Check(p); e != api.OK {
			t.Errorf("P2.2: Check of %s with empty lists: %d", told(p), e)
		}
	}
	for _, p := range []api.Packet{
		{Kind: api.Subscribe, ID: 1, Asks: []api.Ask{}}, {Kind: api.Suback, ID: 1, Codes: []int{}}, {Kind: api.Unsubscribe, ID: 1, Filters: []string{}},
		{Kind: api.Subscribe, ID: 1}, {Kind: api.Suback, ID: 1}, {Kind: api.Unsubscribe, ID: 1},
	} {
		if e := packet.Check(p); e != api.ErrPacketEmpty {
			t.Errorf("P2.2: Check of %s: %d, want ErrPacketEmpty", told(p), e)
		}
	}
}

// P2.2: the chapter's examples.
func TestCheckExamples(t *testing.T) {
	publish := api.Packet{Kind: api.Publish, Msg: api.Message{Topic: "a", Payload: []byte{1, 2, 3}, QoS: 1}, ID: 7}
	connect := api.Packet{Kind: api.Connect, Level: 4, Clean: true, KeepAlive: 60, Client: "c"}
	subscribe := api.Packet{Kind: api.Subscribe, ID: 1}
	for _, c := range []struct {
		p    api.Packet
		bend func(p *api.Packet)
		e    api.Errno
	}{
		{publish, func(p *api.Packet) {}, api.OK},
		{publish, func(p *api.Packet) { p.ID = 0 }, api.ErrPacketID},
		{publish, func(p *api.Packet) { p.Msg.QoS = 0 }, api.ErrPacketField},
		{publish, func(p *api.Packet) { p.Msg.QoS = 3 }, api.ErrPacketQoS},
		{publish, func(p *api.Packet) { p.Dup, p.Msg.QoS, p.ID = true, 0, 0 }, api.ErrPacketMarks},
		{connect, func(p *api.Packet) {}, api.OK},
		{connect, func(p *api.Packet) { p.HasPass = true }, api.ErrPacketMarks},
		{connect, func(p *api.Packet) { p.Pass = []byte{1} }, api.ErrPacketField},
		{connect, func(p *api.Packet) { p.Asks = []api.Ask{{Filter: "a"}} }, api.ErrPacketField},
		{connect, func(p *api.Packet) { p.Level = 5 }, api.OK},
		{subscribe, func(p *api.Packet) {}, api.ErrPacketEmpty},
		{subscribe, func(p *api.Packet) { p.Asks = []api.Ask{{Filter: "a#"}} }, api.ErrPacketFilter},
		{subscribe, func(p *api.Packet) { p.Asks = []api.Ask{{Filter: "a", QoS: 3}} }, api.ErrPacketQoS},
	} {
		p := packet.Copy(c.p)
		c.bend(&p)
		if e := packet.Check(p); e != c.e {
			t.Errorf("P2.2: Check of %s: %d, want %d", told(p), e, c.e)
		}
	}
}

// P2.2: each number at its bounds and one past them.
func TestCheckNumbers(t *testing.T) {
	for _, c := range []struct {
		kind  int
		field string
		most  int
	}{
		{api.Connect, "Level", 255}, {api.Connect, "KeepAlive", 65535}, {api.Connack, "Code", 255},
		{api.Publish, "ID", 65535}, {api.Puback, "ID", 65535}, {api.Pubrec, "ID", 65535}, {api.Pubrel, "ID", 65535}, {api.Pubcomp, "ID", 65535},
		{api.Subscribe, "ID", 65535}, {api.Suback, "ID", 65535}, {api.Unsubscribe, "ID", 65535}, {api.Unsuback, "ID", 65535},
	} {
		for _, n := range []int{math.MinInt, -1, 0, 1, c.most, c.most + 1, 1 << 32, math.MaxInt} {
			p := plainest(c.kind)
			set(&p, c.field, n)
			want := api.OK
			switch {
			case c.field == "ID" && (n < 1 || n > c.most):
				want = api.ErrPacketID
			case n < 0 || n > c.most:
				want = api.ErrPacketField
			}
			if e := packet.Check(p); e != want {
				t.Errorf("P2.2: Check of %s: %d, want %d", told(p), e, want)
			}
		}
	}
}

// P2.2: qualities and codes, in whichever place of their list they stand.
func TestCheckQualities(t *testing.T) {
	for q := -2; q <= 258; q++ {
		connect, publish := plainest(api.Connect), plainest(api.Publish)
		connect.Will.QoS, publish.Msg.QoS = q, q
		publish.ID, publish.Dup = min(q*q, 1), q != 0
		holdCheck(t, "P2.2", connect)
		holdCheck(t, "P2.2", publish)
		holdMessage(t, publish.Msg)
		for at := range 2 {
			subscribe, suback := plainest(api.Subscribe), plainest(api.Suback)
			subscribe.Asks[at].QoS = q
			suback.Codes[3*at] = q
			holdCheck(t, "P2.2", subscribe)
			holdCheck(t, "P2.2", suback)
		}
	}
}

// texts: some that are texts, topics, filters and some that aren't, the greatest and one more.
var texts = []string{
	"", "a", "/", "+", "#", "a/+", "a/#", "+/#", "a#", "#/a", "a+", "é", "\x00", "\xC0\x80", "\xED\xA0\x80", "a\x00/+", "$a/b",
	strings.Repeat("a", 65535), strings.Repeat("a", 65536), strings.Repeat("a", 65533) + "/#", strings.Repeat("a", 65534) + "/#",
}

// P2.2, P2.3: texts, topics and filters wherever they stand.
func TestCheckTexts(t *testing.T) {
	for _, s := range texts {
		for _, bend := range []func() api.Packet{
			func() api.Packet { p := plainest(api.Connect); p.Client = s; return p },
			func() api.Packet { p := plainest(api.Connect); p.User = s; return p },
			func() api.Packet { p := plainest(api.Connect); p.Will.Topic = s; return p },
			func() api.Packet { p := plainest(api.Publish); p.Msg.Topic = s; return p },
			func() api.Packet { p := plainest(api.Subscribe); p.Asks[0].Filter = s; return p },
			func() api.Packet { p := plainest(api.Subscribe); p.Asks[1].Filter = s; return p },
			func() api.Packet { p := plainest(api.Unsubscribe); p.Filters[0] = s; return p },
			func() api.Packet { p := plainest(api.Unsubscribe); p.Filters[1] = s; return p },
		} {
			holdCheck(t, "P2.2", bend())
		}
	}
}

// wrongs: of each kind, one packet's wrongs, each with its error; none takes away another one.
var wrongs = map[int]map[api.Errno]func(p *api.Packet){
	api.Connect: {
		api.ErrPacketField: func(p *api.Packet) { p.KeepAlive = 65536 },
		api.ErrPacketText:  func(p *api.Packet) { p.Client = "\xFF" },
		api.ErrPacketTopic: func(p *api.Packet) { p.Will.Topic = "+" },
		api.ErrPacketQoS:   func(p *api.Packet) { p.Will.QoS = 3 },
		api.ErrPacketSize:  func(p *api.Packet) { p.Pass = make([]byte, 65536) },
		api.ErrPacketMarks: func(p *api.Packet) { p.HasUser, p.User = false, "" },
	},
	api.Connack: {
		api.ErrPacketField: func(p *api.Packet) { p.Code = 256 },
		api.ErrPacketMarks: func(p *api.Packet) { p.Present = true },
	},
	api.Publish: {
		api.ErrPacketField: func(p *api.Packet) { p.Level = 4 },
		api.ErrPacketTopic: func(p *api.Packet) { p.Msg.Topic = "" },
		api.ErrPacketQoS:   func(p *api.Packet) { p.Msg.QoS = 3 },
		api.ErrPacketID:    func(p *api.Packet) { p.ID = 65536 },
		api.ErrPacketSize:  func(p *api.Packet) { p.Msg.Payload = hugePayload },
	},
	api.Subscribe: {
		api.ErrPacketField:  func(p *api.Packet) { p.Codes = []int{0} },
		api.ErrPacketFilter: func(p *api.Packet) { p.Asks = append(p.Asks, api.Ask{Filter: "a#"}) },
		api.ErrPacketQoS:    func(p *api.Packet) { p.Asks = append([]api.Ask{{Filter: "a", QoS: 3}}, p.Asks...) },
		api.ErrPacketID:     func(p *api.Packet) { p.ID = 0 },
	},
	api.Suback: {
		api.ErrPacketField: func(p *api.Packet) { p.Dup = true },
		api.ErrPacketQoS:   func(p *api.Packet) { p.Codes = append(p.Codes, 3) },
		api.ErrPacketID:    func(p *api.Packet) { p.ID = -1 },
	},
	api.Unsubscribe: {
		api.ErrPacketField:  func(p *api.Packet) { p.Present = true },
		api.ErrPacketFilter: func(p *api.Packet) { p.Filters = append(p.Filters, "") },
		api.ErrPacketID:     func(p *api.Packet) { p.ID = 0 },
	},
	api.Pubrel: {
		api.ErrPacketField: func(p *api.Packet) { p.Client = "\xFF" },
		api.ErrPacketID:    func(p *api.Packet) { p.ID = 0 },
	},
}

var hugePayload = make([]byte, 268435455)

// P2.2: of several wrongs the first one is told.
func TestCheckOrder(t *testing.T) {
	for kind, bends := range wrongs {
		var errs []api.Errno
		for e := range bends {
			errs = append(errs, e)
		}
		for some := 1; some < 1<<len(errs); some++ {
			p, first := plainest(kind), api.Errno(99)
			for i, e := range errs {
				if some>>i&1 == 1 {
					bends[e](&p)
					first = min(first, e)
				}
			}
			if e := packet.Check(p); e != first {
				t.Errorf("P2.2: Check of %s: %d, want %d", told(p), e, first)
			}
		}
	}
	for _, p := range []api.Packet{
		{Kind: api.Subscribe}, {Kind: api.Suback}, {Kind: api.Unsubscribe},
	} {
		if e := packet.Check(p); e != api.ErrPacketID {
			t.Errorf("P2.2: Check of %s: %d, want ErrPacketID ahead of ErrPacketEmpty", told(p), e)
		}
	}
}

// P2.2: MaxText and one more, MaxLength and one more.
func TestCheckSizes(t *testing.T) {
	for n, want := range map[int]api.Errno{65535: api.OK, 65536: api.ErrPacketSize} {
		will, pass := plainest(api.Connect), plainest(api.Connect)
		will.Will.Payload = make([]byte, n)
		pass.Pass = make([]byte, n)
		for _, p := range []api.Packet{will, pass} {
			if e := packet.Check(p); e != want {
				t.Errorf("P2.2: Check of %s: %d, want %d", told(p), e, want)
			}
		}
	}
	publish := plainest(api.Publish)
	room := 268435455 - 2 - len(publish.Msg.Topic) - 2
	for extra, want := range []api.Errno{api.OK, api.ErrPacketSize} {
		publish.Msg.Payload = hugePayload[:room+extra]
		if e := packet.Check(publish); e != want {
			t.Errorf("P2.2: Check of a Publish with %d bytes: %d, want %d", room+extra, e, want)
		}
	}
	publish.Dup, publish.Msg.QoS, publish.ID = false, 0, 0
	for extra, want := range []api.Errno{api.OK, api.ErrPacketSize} {
		publish.Msg.Payload = hugePayload[:room+2+extra]
		if e := packet.Check(publish); e != want {
			t.Errorf("P2.2: Check of a Publish with %d bytes at quality 0: %d, want %d", room+2+extra, e, want)
		}
	}
}

// greatest: texts that take, each with so many bytes beside it, just MaxLength bytes behind an ID.
func greatest(beside int) []string {
	full := strings.Repeat("f", 65535)
	var l []string
	left := 268435455 - 2
	for left > 65535+beside {
		l = append(l, full)
		left -= 65535 + beside
	}
	return append(l, full[:left-beside])
}

// P2.2, P2.5: lists of filters of MaxLength bytes and one more.
func TestCheckLongLists(t *testing.T) {
	unsubscribe := api.Packet{Kind: api.Unsubscribe, ID: 1, Filters: greatest(2)}
	subscribe := api.Packet{Kind: api.Subscribe, ID: 1}
	for _, f := range greatest(3) {
		subscribe.Asks = append(subscribe.Asks, api.Ask{Filter: f})
	}
	for _, p := range []api.Packet{unsubscribe, subscribe} {
		if n := packet.Length(p); n != 268435455 {
			t.Errorf("P2.5: Length of the longest packet of kind %d: %d", p.Kind, n)
		}
	}
	unsubscribe.Filters[len(unsubscribe.Filters)-1] += "f"
	subscribe.Asks[len(subscribe.Asks)-1].Filter += "f"
	for _, p := range []api.Packet{unsubscribe, subscribe} {
		if e := packet.Check(p); e != api.ErrPacketSize {
			t.Errorf("P2.2: Check of a packet of kind %d, one byte too long: %d", p.Kind, e)
		}
	}
}

// P2.2: packets of random fields, right ones and wrong ones.
func TestCheckRandom(t *testing.T) {
	r := rand.New(rand.NewSource(2))
	seen := map[api.Errno]int{}
	for range 60000 {
		p := bent(r, somePacket(r))
		seen[packet.Check(p)]++
		holdCheck(t, "P2.2", p)
	}
	for e := api.ErrPacketKind; e <= api.ErrPacketMarks; e++ {
		if e != api.ErrPacketSize && seen[e] == 0 {
			t.Errorf("no packet has error %d", e)
		}
	}
}

func holdMessage(t *testing.T, m api.Message) {
	t.Helper()
	want := api.OK
	switch {
	case !aTopic(m.Topic):
		want = api.ErrPacketTopic
	case beyond(m.QoS, 2):
		want = api.ErrPacketQoS
	}
	if e := packet.CheckMessage(m); e != want {
		t.Errorf("P2.3: CheckMessage of %.20q at %d: %d, want %d", m.Topic, m.QoS, e, want)
	}
}

// P2.3: topics and qualities of messages; their payload may have any length.
func TestCheckMessage(t *testing.T) {
	for _, s := range texts {
		for _, qos := range []int{math.MinInt, -1, 0, 1, 2, 3, 128, math.MaxInt} {
			for _, retain := range []bool{false, true} {
				holdMessage(t, api.Message{Topic: s, QoS: qos, Retain: retain})
				holdMessage(t, api.Message{Topic: s, QoS: qos, Retain: retain, Payload: hugePayload})
			}
		}
	}
}
