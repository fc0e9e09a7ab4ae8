package broker_test

import (
	"fmt"
	"maps"
	"slices"
	"strconv"
	"strings"

	"crier/api"
	"crier/codec"
	"crier/packet"
)

// model: what DOC.md says of a broker, by plain means: all is sought where it lies, and told as a text.
type model struct {
	c     api.Config
	lines map[int]*line
	homes map[string]*home
	kept  map[string]api.Message
	autos int
	out   []string
}

// line: an open connection.
type line struct {
	bytes   string
	key     string
	joined  bool
	keep    int
	silence int
	will    []api.Message
}

// home: a session.
type home struct {
	lasting bool
	conn    int // below 0: it is offline
	subs    map[string]int
	last    int
	under   []api.Flight
	waits   []api.Message
	noted   map[int]struct{}
}

func newModel(c api.Config) *model {
	c.Window = between(1, c.Window, 65535)
	c.Queue = between(0, c.Queue, 65536)
	c.Subs = between(0, c.Subs, 65536)
	c.Retained = between(0, c.Retained, 1048576)
	c.Sessions = between(1, c.Sessions, 65536)
	c.Most = between(2, c.Most, 268435455)
	c.Users = slices.Clone(c.Users)
	return &model{c: c, lines: map[int]*line{}, homes: map[string]*home{}, kept: map[string]api.Message{}}
}

func between(least, n, most int) int {
	if n < least {
		return least
	}
	if n > most {
		return most
	}
	return n
}

// told tells what was put out since it was asked.
func (m *model) told() string {
	s := strings.Join(m.out, "; ")
	m.out = nil
	return s
}

func (m *model) send(conn int, p api.Packet) {
	b, e := codec.Encode(p)
	if e != api.OK {
		m.out = append(m.out, fmt.Sprintf("a packet that isn't right: %+v", p))
		return
	}
	m.out = append(m.out, shown(api.Out{Conn: conn, Data: b}))
}

func (m *model) do(e api.Event) {
	x := m.lines[e.Conn]
	switch {
	case e.Kind == 1 && x == nil && e.Conn >= 0 && e.Conn <= 65535:
		m.lines[e.Conn] = &line{}
	case e.Kind == 2 && x != nil:
		x.bytes += string(e.Data)
		m.read(e.Conn, x)
	case e.Kind == 3 && x != nil:
		m.end(e.Conn, true)
	case e.Kind == 4:
		m.tick()
	}
}

func (m *model) read(n int, x *line) {
	for m.lines[n] == x {
		p, size, err := codec.Decode([]byte(x.bytes), m.c.Most)
		if err != nil {
			m.shut(n)
			return
		}
		if size == 0 {
			return
		}
		x.bytes = x.bytes[size:]
		m.packet(n, x, p)
	}
}

func (m *model) tick() {
	var late []int
	for n, x := range m.lines {
		x.silence++
		if x.joined && x.keep > 0 && 2*x.silence > 3*x.keep || !x.joined && m.c.Patience > 0 && x.silence > m.c.Patience {
			late = append(late, n)
		}
	}
	slices.Sort(late)
	for _, n := range late {
		m.shut(n)
	}
}

// shut: the broker ends a connection.
func (m *model) shut(n int) {
	m.out = append(m.out, fmt.Sprintf("%d closed", n))
	m.end(n, true)
}

func (m *model) end(n int, wills bool) {
	x := m.lines[n]
	delete(m.lines, n)
	if x.joined {
		if h := m.homes[x.key]; h.lasting {
			h.conn = -1
		} else {
			delete(m.homes, x.key)
		}
	}
	for _, w := range x.will {
		if wills {
			m.pass(w)
		}
	}
}

func (m *model) refuse(n, code int) {
	m.send(n, api.Packet{Kind: 2, Code: code})
	m.shut(n)
}

// packet: a packet that is right has come.
func (m *model) packet(n int, x *line, p api.Packet) {
	if x.joined == (p.Kind == 1) || p.Kind == 2 || p.Kind == 9 || p.Kind == 11 || p.Kind == 13 {
		m.shut(n)
		return
	}
	if p.Kind == 1 && p.Level != 4 {
		m.refuse(n, 1)
		return
	}
	x.silence = 0
	h := m.homes[x.key]
	switch p.Kind {
	case 1:
		m.connect(n, x, p)
	case 3:
		m.publish(n, h, p)
	case 4, 5, 7:
		m.ack(h, p.Kind, p.ID)
	case 6:
		delete(h.noted, p.ID)
		m.send(n, api.Packet{Kind: 7, ID: p.ID})
	case 8:
		m.subscribe(n, h, p)
	case 10:
		for _, f := range p.Filters {
			delete(h.subs, f)
		}
		m.send(n, api.Packet{Kind: 11, ID: p.ID})
	case 12:
		m.send(n, api.Packet{Kind: 13})
	case 14:
		x.will = nil
		m.shut(n)
	}
}

func (m *model) connect(n int, x *line, p api.Packet) {
	old := m.homes[p.Client]
	user := len(m.c.Users) == 0
	for _, u := range m.c.Users {
		user = user || p.HasUser && p.HasPass && p.User == u.Name && string(p.Pass) == u.Word
	}
	code := 0
	switch {
	case p.Client == "" && !p.Clean:
		code = 2
	case !user:
		code = 4
	case old == nil && len(m.homes) >= m.c.Sessions:
		code = 3
	case p.Client == "" && m.autos == 2147483647:
		code = 3
	}
	if code != 0 {
		m.refuse(n, code)
		return
	}
	if old != nil && old.conn >= 0 {
		m.shut(old.conn)
	}
	present := old != nil && old.lasting && !p.Clean
	x.key = p.Client
	if p.Client == "" {
		m.autos++
		x.key = "\x00" + strconv.Itoa(m.autos)
	}
	if !present {
		m.homes[x.key] = &home{lasting: !p.Clean, subs: map[string]int{}, noted: map[int]struct{}{}}
	}
	h := m.homes[x.key]
	h.conn, x.joined, x.keep = n, true, p.KeepAlive
	if p.HasWill {
		x.will = []api.Message{p.Will}
	}
	m.send(n, api.Packet{Kind: 2, Present: present})
	for _, f := range h.under {
		if f.Released {
			m.send(n, api.Packet{Kind: 6, ID: f.ID})
		} else {
			m.send(n, api.Packet{Kind: 3, Dup: true, ID: f.ID, Msg: f.Msg})
		}
	}
	m.fill(h)
}

func (m *model) publish(n int, h *home, p api.Packet) {
	_, noted := h.noted[p.ID]
	if p.Msg.QoS == 2 {
		h.noted[p.ID] = struct{}{}
	}
	if p.Msg.QoS < 2 || !noted {
		m.pass(p.Msg)
	}
	switch p.Msg.QoS {
	case 1:
		m.send(n, api.Packet{Kind: 4, ID: p.ID})
	case 2:
		m.send(n, api.Packet{Kind: 5, ID: p.ID})
	}
}

func (m *model) subscribe(n int, h *home, p api.Packet) {
	var codes []int
	for _, a := range p.Asks {
		_, has := h.subs[a.Filter]
		if !has && len(h.subs) >= m.c.Subs {
			codes = append(codes, 128)
			continue
		}
		h.subs[a.Filter] = a.QoS
		codes = append(codes, a.QoS)
	}
	m.send(n, api.Packet{Kind: 9, ID: p.ID, Codes: codes})
	for i, a := range p.Asks {
		for _, x := range m.retained() {
			if codes[i] != 128 && matches(a.Filter, x.Topic) {
				x.QoS = min(x.QoS, a.QoS)
				m.copy(h, x)
			}
		}
	}
}

func (m *model) pass(x api.Message) {
	if _, has := m.kept[x.Topic]; x.Retain {
		if len(x.Payload) == 0 {
			delete(m.kept, x.Topic)
		} else if has || len(m.kept) < m.c.Retained {
			m.kept[x.Topic] = x
		}
	}
	x.Retain = false
	for _, key := range slices.Sorted(maps.Keys(m.homes)) {
		best := -1
		for f, qos := range m.homes[key].subs {
			if matches(f, x.Topic) {
				best = max(best, qos)
			}
		}
		if best >= 0 {
			c := x
			c.QoS = min(x.QoS, best)
			m.copy(m.homes[key], c)
		}
	}
}

func (m *model) copy(h *home, x api.Message) {
	x.Payload = slices.Clone(x.Payload)
	if x.QoS == 0 {
		if h.conn >= 0 {
			m.send(h.conn, api.Packet{Kind: 3, Msg: x})
		}
		return
	}
	if len(h.waits) < m.c.Queue || h.conn >= 0 && len(h.under) < m.c.Window {
		h.waits = append(h.waits, x)
	}
	m.fill(h)
}

func (m *model) fill(h *home) {
	for h.conn >= 0 && len(h.waits) > 0 && len(h.under) < m.c.Window {
		h.last = h.last%65535 + 1
		for slices.ContainsFunc(h.under, func(f api.Flight) bool { return f.ID == h.last }) {
			h.last = h.last%65535 + 1
		}
		h.under = append(h.under, api.Flight{ID: h.last, Msg: h.waits[0]})
		m.send(h.conn, api.Packet{Kind: 3, ID: h.last, Msg: h.waits[0]})
		h.waits = h.waits[1:]
	}
}

func (m *model) ack(h *home, kind, id int) {
	i := slices.IndexFunc(h.under, func(f api.Flight) bool { return f.ID == id })
	if i < 0 {
		return
	}
	switch f := &h.under[i]; {
	case kind == 5 && (f.Released || f.Msg.QoS == 2):
		*f = api.Flight{ID: id, Released: true}
		m.send(h.conn, api.Packet{Kind: 6, ID: id})
	case kind == 7 && f.Released, kind == 4 && f.Msg.QoS == 1:
		h.under = slices.Delete(h.under, i, i+1)
		m.fill(h)
	}
}

// take: P16.4.
func (m *model) take(n int, l []api.Input) {
	x := m.lines[n]
	for _, in := range l {
		if x == nil || m.lines[n] != x {
			return
		}
		switch p := in.Packet; {
		case in.What == 1 && in.Code == 0 && in.Err == 0 && packet.Check(p) == 0 && packet.Length(p) <= m.c.Most && (p.Kind != 1 || p.Level == 4):
			m.packet(n, x, p)
		case in.What == 2 && in.Code == 1 && in.Err == 0 && packet.Same(p, api.Packet{}) && !x.joined:
			m.refuse(n, 1)
		default:
			m.shut(n)
		}
	}
}

func (m *model) drop() {
	for n := range m.lines {
		m.end(n, false)
	}
}

func (m *model) retained() []api.Message {
	return slices.SortedFunc(maps.Values(m.kept), func(a, b api.Message) int { return byLevels(a.Topic, b.Topic) })
}

func (m *model) image() api.Image {
	im := api.Image{Autos: m.autos, Retained: m.retained()}
	for _, key := range slices.Sorted(maps.Keys(m.homes)) {
		h := m.homes[key]
		if !h.lasting {
			continue
		}
		s := api.Session{Client: key, Window: api.Window{Last: h.last, Flight: h.under, Queue: h.waits}}
		for _, f := range slices.SortedFunc(maps.Keys(h.subs), byLevels) {
			s.Subs = append(s.Subs, api.Ask{Filter: f, QoS: h.subs[f]})
		}
		s.Inbox = slices.Sorted(maps.Keys(h.noted))
		im.Sessions = append(im.Sessions, s)
	}
	return im
}

func byLevels(a, b string) int { return slices.Compare(strings.Split(a, "/"), strings.Split(b, "/")) }

// matches: DOC.md's word, level by level.
func matches(filter, topic string) bool {
	f, t := strings.Split(filter, "/"), strings.Split(topic, "/")
	if strings.HasPrefix(topic, "$") && (f[0] == "+" || f[0] == "#") {
		return false
	}
	for i, level := range f {
		if level == "#" {
			return true
		}
		if i >= len(t) || level != "+" && level != t[i] {
			return false
		}
	}
	return len(f) == len(t)
}
