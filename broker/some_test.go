package broker_test

import (
	"bytes"
	"fmt"
	"slices"
	"strings"
	"testing"

	"crier/api"
	"crier/broker"
	"crier/codec"
	"crier/conn"
	"crier/image"
	"crier/packet"
)

// shown tells an output as a text: its connection, and its packet or its closing.
func shown(o api.Out) string {
	if o.Closed {
		if len(o.Data) > 0 {
			return fmt.Sprintf("%d closed with bytes", o.Conn)
		}
		return fmt.Sprintf("%d closed", o.Conn)
	}
	p, n, err := codec.Decode(o.Data, api.MaxLength)
	if err != nil || n != len(o.Data) || n != codec.Size(p) {
		return fmt.Sprintf("%d no packet: %X", o.Conn, o.Data)
	}
	return fmt.Sprintf("%d %s", o.Conn, packetText(p))
}

func packetText(p api.Packet) string {
	switch p.Kind {
	case api.Connack:
		return fmt.Sprintf("connack %d%s", p.Code, marked(" present", p.Present))
	case api.Publish:
		return fmt.Sprintf("publish %s=%s q%d #%d%s%s", p.Msg.Topic, p.Msg.Payload, p.Msg.QoS, p.ID, marked(" dup", p.Dup), marked(" retain", p.Msg.Retain))
	case api.Suback:
		return fmt.Sprintf("suback #%d %v", p.ID, p.Codes)
	case api.Puback, api.Pubrec, api.Pubrel, api.Pubcomp, api.Unsuback:
		return fmt.Sprintf("%s #%d", strings.ToLower(packet.Name(p.Kind)), p.ID)
	case api.Pingresp:
		return "pingresp"
	}
	return fmt.Sprintf("what no broker sends: %+v", p)
}

func marked(s string, is bool) string {
	if is {
		return s
	}
	return ""
}

func told(l []api.Out) string {
	var b strings.Builder
	for i, o := range l {
		if i > 0 {
			b.WriteString("; ")
		}
		b.WriteString(shown(o))
	}
	return b.String()
}

// spoilOuts writes over all lists of an answer, and over their spare room.
func spoilOuts(l []api.Out) {
	for _, o := range l {
		fill(o.Data, 0xF0)
	}
	fill(l, api.Out{Conn: 77})
}

func fill[T any](l []T, with T) {
	l = l[:cap(l)]
	for i := range l {
		l[i] = with
	}
}

// roomy tells a list of its own with spare room.
func roomy[T any](l []T) []T { return append(make([]T, 0, len(l)+3), l...) }

// crewman: a broker, and how it is told things.
type crewman struct {
	name  string
	c     api.Config
	b     *broker.Broker
	cut   bool               // its bytes come in pieces
	conns map[int]*conn.Conn // not nil: it is told by Take what these answer
}

// desk: brokers of one setup, by all means, and the model, all told the same.
type desk struct {
	t    *testing.T
	m    *model
	crew []*crewman
	when []string // what was done
	step int
	seen map[string]int // how often something was put out, by its first word and its marks
}

// variants: the same setup by all means.
func variants(c api.Config) []*crewman {
	with := func(name string, list bool, cache int) *crewman {
		v := &crewman{name: name, c: c}
		v.c.List, v.c.Cache = list, cache
		return v
	}
	l := []*crewman{
		with("tries", false, 0),
		with("tries and one answer", false, 1),
		with("tries and answers", false, 1<<30),
		with("lists", true, 9),
		with("tries, in pieces", false, 3),
		with("lists, in pieces", true, 0),
		with("tries, by Take", false, 2),
	}
	l[4].cut, l[5].cut = true, true
	l[6].conns = map[int]*conn.Conn{}
	return l
}

func newDesk(t *testing.T, c api.Config) *desk {
	t.Helper()
	d := &desk{t: t, m: newModel(c), crew: variants(c), seen: map[string]int{}}
	for _, v := range d.crew {
		handed := v.c
		handed.Users = roomy(c.Users)
		v.b = broker.New(handed)
		fill(handed.Users, api.User{Name: "spoilt"})
	}
	d.say("New(%+v)", c)
	return d
}

func (d *desk) say(form string, args ...any) {
	if len(d.when) > 60 {
		d.when = append([]string{".."}, d.when[31:]...)
	}
	d.when = append(d.when, fmt.Sprintf(form, args...))
	d.step++
}

func (d *desk) fault(promise, form string, args ...any) {
	d.t.Helper()
	d.t.Fatalf("%s: %s\n%s", promise, fmt.Sprintf(form, args...), strings.Join(d.when, "\n"))
}

// all tells every broker something, holds the answers against the model's, and tells it.
func (d *desk) all(promise string, ask func(v *crewman) []api.Out) string {
	d.t.Helper()
	d.count()
	want := d.m.told()
	for _, v := range d.crew {
		l := ask(v)
		if got := told(l); got != want {
			d.fault(promise, "by %s:\n%s; want\n%s", v.name, got, want)
		}
		spoilOuts(l)
	}
	d.hold()
	return want
}

// count notes what the model is about to tell.
func (d *desk) count() {
	for _, s := range d.m.out {
		words := strings.Fields(s)
		d.seen[words[1]]++
		for _, w := range []string{"present", "dup", "retain", "q1", "q2", "[128", "128]"} {
			if slices.Contains(words, w) {
				d.seen[words[1]+" "+w]++
			}
		}
		if words[1] == "connack" {
			d.seen["connack "+words[2]]++
		}
	}
}

// do tells all an event.
func (d *desk) do(e api.Event) string {
	d.t.Helper()
	d.say("Do(%d, %d, %.300X)", e.Kind, e.Conn, e.Data)
	d.m.do(e)
	return d.all("P16.1", func(v *crewman) []api.Out { return v.do(e) })
}

// hold holds what the brokers say of themselves against the model, and P22.6.
func (d *desk) hold() {
	d.t.Helper()
	v := d.crew[d.step%len(d.crew)]
	im, want := v.b.Image(), d.m.image()
	if !image.Same(im, want) {
		d.fault("P16.6", "by %s: %s; want %s", v.name, imageText(im), imageText(want))
	}
	c := d.m.c
	if len(im.Sessions) > c.Sessions || len(im.Retained) > c.Retained {
		d.fault("P22.6", "%d sessions, %d retained", len(im.Sessions), len(im.Retained))
	}
	for _, s := range im.Sessions {
		if len(s.Subs) > c.Subs || len(s.Window.Flight) > c.Window || len(s.Window.Queue) > c.Queue {
			d.fault("P22.6", "%d filters, %d under way, %d wait", len(s.Subs), len(s.Window.Flight), len(s.Window.Queue))
		}
		for i, f := range s.Window.Flight {
			if twice := func(g api.Flight) bool { return g.ID == f.ID }; f.ID == 0 || slices.ContainsFunc(s.Window.Flight[:i], twice) {
				d.fault("P22.6", "%d stands under way, 0 or twice", f.ID)
			}
		}
	}
	spoilImage(im)
	d.shapes(v)
}

// shapes holds both tries: what stands in them, and how many nodes they have.
func (d *desk) shapes(v *crewman) {
	d.t.Helper()
	subs, kept := v.b.Shapes()
	if v.c.List {
		if !isZeroShape(subs) || !isZeroShape(kept) {
			d.fault("P16.8", "by lists: %+v, %+v", subs, kept)
		}
		return
	}
	got, want := shapeText("", subs), d.m.subsText()
	if got != want {
		d.fault("P16.8", "by %s: filters %s; want %s", v.name, got, want)
	}
	topics := []string{}
	for _, x := range d.m.retained() {
		topics = append(topics, x.Topic+" ")
	}
	if got, want := shapeText("", kept), strings.Join(topics, ""); got != want {
		d.fault("P16.8", "by %s: topics %s; want %s", v.name, got, want)
	}
	if n, most := nodes(subs), 2*strings.Count(want, "{[")+1; n > most || want == "" && n != 1 {
		d.fault("P22.6", "%d nodes of filters", n)
	}
	if n, most := nodes(kept), 2*len(d.m.kept)+1; n > most || len(d.m.kept) == 0 && n != 1 {
		d.fault("P22.6", "%d nodes of topics", n)
	}
}

func isZeroShape(s api.Shape) bool {
	return len(s.Levels) == 0 && !s.Here && len(s.Entries) == 0 && len(s.Kids) == 0
}

func nodes(s api.Shape) int {
	n := 1
	for _, k := range s.Kids {
		n += nodes(k)
	}
	return n
}

// shapeText tells what stands in a trie, in its order.
func shapeText(above string, s api.Shape) string {
	path, out := above, ""
	for _, level := range s.Levels {
		path += "/" + level
	}
	if s.Here {
		out = path[1:] + " "
	}
	if len(s.Entries) > 0 {
		out = path[1:] + fmt.Sprintf("{%v} ", s.Entries)
	}
	for _, k := range s.Kids {
		out += shapeText(path, k)
	}
	return out
}

// subsText tells all filters and who has them.
func (m *model) subsText() string {
	by := map[string][]api.Entry{}
	for key, h := range m.homes {
		for f, qos := range h.subs {
			by[f] = append(by[f], api.Entry{Key: key, QoS: qos})
		}
	}
	var filters []string
	for f, l := range by {
		filters = append(filters, f)
		slices.SortFunc(l, func(a, b api.Entry) int { return strings.Compare(a.Key, b.Key) })
	}
	slices.SortFunc(filters, byLevels)
	out := ""
	for _, f := range filters {
		out += f + fmt.Sprintf("{%v} ", by[f])
	}
	return out
}

func imageText(im api.Image) string { return fmt.Sprintf("%+v", im) }

func spoilImage(im api.Image) {
	for _, s := range im.Sessions {
		for _, f := range s.Window.Flight {
			fill(f.Msg.Payload, 0xF0)
		}
		for _, m := range s.Window.Queue {
			fill(m.Payload, 0xF0)
		}
		fill(s.Subs, api.Ask{Filter: "spoilt", QoS: 9})
		fill(s.Window.Flight, api.Flight{ID: 9})
		fill(s.Window.Queue, api.Message{Topic: "spoilt"})
		fill(s.Inbox, 99)
	}
	for _, m := range im.Retained {
		fill(m.Payload, 0xF0)
	}
	fill(im.Sessions, api.Session{Client: "spoilt"})
	fill(im.Retained, api.Message{Topic: "spoilt"})
}

// do tells a broker an event in its way; what it was handed is spoilt behind that.
func (v *crewman) do(e api.Event) []api.Out {
	if v.conns != nil {
		return v.byTake(e)
	}
	if !v.cut || e.Kind != api.Bytes {
		return handed(v.b, e)
	}
	var out []api.Out
	for i, rest := 0, e.Data; ; i++ {
		k := min([]int{1, 0, 2, 9, 0, 1, 1, 40}[(i+len(e.Data))%8], len(rest))
		out = append(out, handed(v.b, api.Event{Kind: api.Bytes, Conn: e.Conn, Data: rest[:k]})...)
		rest = rest[k:]
		if len(rest) == 0 {
			return out
		}
	}
}

// handed hands an event in, and spoils its bytes, which must not have been changed.
func handed(b *broker.Broker, e api.Event) []api.Out {
	data := append(roomy(e.Data), "behind"...)
	was := bytes.Clone(data)
	e.Data = data[:len(e.Data)]
	out := b.Do(e)
	if !bytes.Equal(data, was) {
		return append(out, api.Out{Conn: -3, Data: []byte("Do changed what it was handed")})
	}
	fill(data, 0xF0)
	return out
}

// byTake reads bytes by conns of its own, as they come from Open on.
func (v *crewman) byTake(e api.Event) []api.Out {
	c := v.conns[e.Conn]
	switch {
	case e.Kind == api.Open && (c == nil || c.Over()):
		v.conns[e.Conn] = conn.New(v.c.Most, v.c.Patience)
	case e.Kind == api.Close && c != nil:
		c.Stop()
	case e.Kind == api.Bytes:
		var l []api.Input
		if c != nil {
			c.Push(e.Data)
			for in, ok := c.Next(); ok; in, ok = c.Next() {
				l = append(l, in)
			}
		}
		return v.noted(v.take(e.Conn, l))
	}
	return v.noted(v.b.Do(e))
}

// noted ends the conns that the broker has closed.
func (v *crewman) noted(l []api.Out) []api.Out {
	for _, o := range l {
		if c := v.conns[o.Conn]; o.Closed && c != nil {
			c.Stop()
		}
	}
	return l
}

// take hands inputs in, and spoils them, which must not have been changed.
func (v *crewman) take(n int, l []api.Input) []api.Out {
	mine, was := ownInputs(l), ownInputs(l)
	out := v.b.Take(n, mine)
	for i, in := range mine {
		if !sameInput(in, was[i]) {
			return append(out, api.Out{Conn: -3, Data: []byte("Take changed what it was handed")})
		}
	}
	spoilInputs(mine)
	return out
}

func ownInputs(l []api.Input) []api.Input {
	l = roomy(l)
	for i := range l {
		p := packet.Copy(l[i].Packet)
		p.Msg.Payload, p.Will.Payload, p.Pass = roomy(p.Msg.Payload), roomy(p.Will.Payload), roomy(p.Pass)
		p.Asks, p.Filters, p.Codes = roomy(p.Asks), roomy(p.Filters), roomy(p.Codes)
		l[i].Packet = p
	}
	return l
}

func sameInput(a, b api.Input) bool {
	return a.What == b.What && a.Code == b.Code && a.Err == b.Err && packet.Same(a.Packet, b.Packet)
}

func spoilInputs(l []api.Input) {
	for _, in := range l {
		fill(in.Packet.Msg.Payload, 0xF0)
		fill(in.Packet.Will.Payload, 0xF0)
		fill(in.Packet.Pass, 0xF0)
		fill(in.Packet.Asks, api.Ask{Filter: "spoilt", QoS: 9})
		fill(in.Packet.Filters, "spoilt")
		fill(in.Packet.Codes, 9)
	}
	fill(l, api.Input{What: 9})
}

// take tells all what a connection brought.
func (d *desk) take(n int, l ...api.Input) string {
	d.t.Helper()
	d.say("Take(%d, %.2000s)", n, fmt.Sprintf("%+v", l))
	d.m.take(n, ownInputs(l))
	return d.all("P16.4", func(v *crewman) []api.Out {
		out := v.noted(v.take(n, l))
		for _, in := range l {
			if c := v.conns[n]; c != nil {
				c.Took(in)
			}
		}
		return out
	})
}

// drop ends all connections of all.
func (d *desk) drop() {
	d.t.Helper()
	d.say("Drop")
	d.m.drop()
	for _, v := range d.crew {
		v.b.Drop()
		if v.conns != nil {
			v.conns = map[int]*conn.Conn{}
		}
	}
	d.hold()
}

// reborn makes brokers from the images of some, and drops the connections of the others: all go on as one (P22.10).
func (d *desk) reborn() {
	d.t.Helper()
	d.say("reborn")
	for i, v := range d.crew {
		im := v.b.Image()
		if i%3 == 0 {
			continue
		}
		if i%3 == 1 {
			b, e := image.Encode(im)
			if e != api.OK {
				d.fault("P22.10", "Encode of %s: %d", imageText(im), e)
			}
			im, _ = image.Decode(b)
		}
		handed := v.c
		handed.Users = roomy(v.c.Users)
		b, e := broker.From(handed, im)
		if e != api.OK || b == nil {
			d.fault("P16.7", "From(%s): %d", imageText(im), e)
		}
		fill(handed.Users, api.User{Name: "spoilt"})
		if got := b.Image(); !image.Same(got, im) {
			d.fault("P16.9", "%s; want %s", imageText(got), imageText(im))
		}
		spoilImage(im)
		v.b = b
	}
	d.drop()
}

// wants: the event is answered so.
func (d *desk) wants(promise string, e api.Event, want string) {
	d.t.Helper()
	if got := d.do(e); got != want {
		d.fault(promise, "%s; want %s", got, want)
	}
}

// says: these packets come at once, and are answered so.
func (d *desk) says(promise string, n int, want string, l ...api.Packet) {
	d.t.Helper()
	d.wants(promise, data(n, encoded(d.t, l...)), want)
}

// comes: a connection is opened, and a Connect comes, answered so.
func (d *desk) comes(promise string, n int, p api.Packet, want string) {
	d.t.Helper()
	d.do(api.Event{Kind: api.Open, Conn: n})
	d.says(promise, n, want, p)
}

// up: lasting clients are there, each at its place among them.
func (d *desk) up(names ...string) {
	d.t.Helper()
	for n, name := range names {
		d.comes("P16.1", n, hello(name), fmt.Sprintf("%d connack 0", n))
	}
}

func data(n int, s string) api.Event {
	return api.Event{Kind: api.Bytes, Conn: n, Data: []byte(s)}
}

func opens(n int) api.Event { return api.Event{Kind: api.Open, Conn: n} }

func closes(n int) api.Event { return api.Event{Kind: api.Close, Conn: n} }

func tick() api.Event { return api.Event{Kind: api.Tick} }

func encoded(t *testing.T, l ...api.Packet) string {
	t.Helper()
	s := ""
	for _, p := range l {
		b, e := codec.Encode(p)
		if e != api.OK {
			t.Fatalf("P3.1: Encode of %+v: %d", p, e)
		}
		s += string(b)
	}
	return s
}

func hello(name string) api.Packet { return api.Packet{Kind: api.Connect, Level: 4, Client: name} }

func clean(name string) api.Packet {
	return api.Packet{Kind: api.Connect, Level: 4, Client: name, Clean: true}
}

// willed gives a Connect a will.
func willed(p api.Packet, m api.Message) api.Packet {
	p.HasWill, p.Will = true, m
	return p
}

func msg(topic, payload string, qos int) api.Message {
	return api.Message{Topic: topic, Payload: []byte(payload), QoS: qos}
}

func retained(topic, payload string, qos int) api.Message {
	m := msg(topic, payload, qos)
	m.Retain = true
	return m
}

func publish(m api.Message, id int) api.Packet {
	return api.Packet{Kind: api.Publish, Msg: m, ID: id}
}

func subscribe(id int, l ...api.Ask) api.Packet {
	return api.Packet{Kind: api.Subscribe, ID: id, Asks: l}
}

func ask(filter string, qos int) api.Ask { return api.Ask{Filter: filter, QoS: qos} }

func unsubscribe(id int, l ...string) api.Packet {
	return api.Packet{Kind: api.Unsubscribe, ID: id, Filters: l}
}

func kind(kind, id int) api.Packet { return api.Packet{Kind: kind, ID: id} }

func input(p api.Packet) api.Input { return api.Input{What: api.InPacket, Packet: p} }

// wide: a setup in which nothing is short.
func wide() api.Config {
	return api.Config{Window: 100, Queue: 100, Subs: 100, Retained: 100, Sessions: 100, Most: 10000}
}
