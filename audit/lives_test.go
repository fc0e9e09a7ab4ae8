package audit_test

import (
	"math/rand"
	"testing"

	"crier/api"
	"crier/audit"
	"crier/broker"
	"crier/codec"
)

// The connections that aren't a lasting client's.
const (
	publisher  = 1000
	subscriber = 2000
)

// station: a broker, and which client is on which connection.
type station struct {
	t     *testing.T
	b     *broker.Broker
	names map[int]string
}

// setup: room for all that these tests bring.
func setup() api.Config {
	return api.Config{Window: 5000, Queue: 5000, Subs: 100, Retained: 5000, Sessions: 5000, Most: 1 << 20}
}

// says tells a broker a packet of a connection: the packets that are sent, and to which connections.
func (x station) says(conn int, p api.Packet) ([]int, []api.Packet) {
	x.t.Helper()
	b, e := codec.Encode(p)
	if e != api.OK {
		x.t.Fatalf("no packet: %+v: %d", p, e)
	}
	var conns []int
	var packets []api.Packet
	for _, o := range x.b.Do(api.Event{Kind: api.Bytes, Conn: conn, Data: b}) {
		q, _, err := codec.Decode(o.Data, api.MaxLength)
		if err != nil || o.Closed {
			x.t.Fatalf("%+v is answered by %+v", p, o)
		}
		conns, packets = append(conns, o.Conn), append(packets, q)
	}
	return conns, packets
}

func (x station) joins(conn int, client string, clean bool) {
	x.t.Helper()
	x.b.Do(api.Event{Kind: api.Open, Conn: conn})
	x.says(conn, api.Packet{Kind: api.Connect, Level: 4, Client: client, Clean: clean})
	x.names[conn] = client
}

// publishes tells who is sent a message, in turn, and at which quality.
func (x station) publishes(m api.Message) []api.Entry {
	x.t.Helper()
	p := api.Packet{Kind: api.Publish, Msg: m}
	if m.QoS > 0 {
		p.ID = 1
	}
	var l []api.Entry
	conns, packets := x.says(publisher, p)
	for i, q := range packets {
		if q.Kind == api.Publish {
			l = append(l, api.Entry{Key: x.names[conns[i]], QoS: q.Msg.QoS})
		}
	}
	if m.QoS == 2 {
		x.says(publisher, api.Packet{Kind: api.Pubrel, ID: 1})
	}
	return l
}

// subscribes tells what is sent to a new client that asks for a filter.
func (x station) subscribes(a api.Ask) []api.Message {
	x.t.Helper()
	x.joins(subscriber, "~", true)
	var l []api.Message
	_, packets := x.says(subscriber, api.Packet{Kind: api.Subscribe, ID: 1, Asks: []api.Ask{a}})
	for _, q := range packets {
		if q.Kind == api.Publish {
			l = append(l, q.Msg)
		}
	}
	x.b.Do(api.Event{Kind: api.Close, Conn: subscriber})
	return l
}

// lived tells the image of a broker with clients, filters, retained messages, and some under way, some that wait, some that came in.
func lived(t *testing.T, r *rand.Rand, filters, topics []string) api.Image {
	c := setup()
	c.Window = 3
	x := station{t, broker.New(c), map[int]string{}}
	for i, client := range []string{"a/b", "b", "+", "a.b", "a", "é"}[:1+r.Intn(6)] {
		x.joins(i, client, false)
		if l := someSubs(r, filters, false); len(l) > 0 {
			x.says(i, api.Packet{Kind: api.Subscribe, ID: 9, Asks: l})
		}
	}
	for id := range 60 {
		m := note(pick(r, topics...), r.Intn(3))
		m.Retain = r.Intn(2) == 0
		p := api.Packet{Kind: api.Publish, Msg: m}
		if m.QoS > 0 {
			p.ID = 1 + id
		}
		conn := r.Intn(len(x.names))
		x.says(conn, p)
		x.says(conn, api.Packet{Kind: []int{api.Puback, api.Pubrec, api.Pubcomp, api.Pubrel}[r.Intn(4)], ID: 1 + r.Intn(4)})
	}
	return x.b.Image()
}

// revived tells a broker made from an image, all its clients being online.
func revived(t *testing.T, im api.Image) station {
	b, e := broker.From(setup(), im)
	if e != api.OK {
		t.Fatalf("no broker: %d", e)
	}
	x := station{t, b, map[int]string{}}
	for i, s := range im.Sessions {
		x.joins(i, s.Client, false)
	}
	x.joins(publisher, "~pub", true)
	return x
}

// TestLives: of the image that a broker answers Faults tells none, Who and Kept tell what the broker does, and without what Spare tells it does the same.
func TestLives(t *testing.T) {
	r := rand.New(rand.NewSource(210))
	filters, topics := fewFilters(), fewTopics()
	var sent, recalled, spare, flying, waiting, inbox int
	for range 60 {
		im := lived(t, r, filters, topics)
		if l := audit.Faults(im); len(l) > 0 {
			t.Fatalf("P21.1: %v: a broker's image: %v", im, l)
		}
		for _, s := range im.Sessions {
			flying, waiting, inbox = flying+len(s.Window.Flight), waiting+len(s.Window.Queue), inbox+len(s.Inbox)
		}
		x, y := revived(t, im), revived(t, im)
		for _, s := range audit.Spare(im) {
			spare++
			for conn, client := range y.names {
				if client == s.Client {
					y.says(conn, api.Packet{Kind: api.Unsubscribe, ID: 1, Filters: []string{s.Filter}})
				}
			}
		}
		for range 60 {
			m := note(pick(r, topics...), r.Intn(3))
			who := audit.Who(im, m)
			want(t, "P21.2: who is sent a message", who, x.publishes(m))
			want(t, "P21.7: who is sent it without what is spare", who, y.publishes(m))
			sent += len(who)
			a := api.Ask{Filter: pick(r, filters...), QoS: r.Intn(3)}
			l := audit.Kept(im, a)
			want(t, "P21.4: what a Subscribe is followed by", l, x.subscribes(a))
			recalled += len(l)
		}
	}
	if sent < 2000 || recalled < 1000 || spare < 30 || flying < 100 || waiting < 100 || inbox < 100 {
		t.Errorf("only %d were sent, %d recalled, %d are spare, %d under way, %d wait, %d came in", sent, recalled, spare, flying, waiting, inbox)
	}
}
