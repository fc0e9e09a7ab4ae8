package audit_test

import (
	"fmt"
	"math/big"
	"math/rand"
	"slices"
	"strings"
	"testing"

	"crier/api"
	"crier/audit"
)

// subs tells filters with their qualities: a filter, a blank, the quality.
func subs(l ...string) []api.Ask {
	var all []api.Ask
	for _, s := range l {
		f, q, _ := strings.Cut(s, " ")
		all = append(all, api.Ask{Filter: f, QoS: int(q[0] - '0')})
	}
	return all
}

// spares tells what Spare should tell of the client c: filters, each with that by which it is spare.
func spares(l ...string) []api.Spare {
	var all []api.Spare
	for i := 0; i < len(l); i += 2 {
		all = append(all, api.Spare{Client: "c", Filter: l[i], By: l[i+1]})
	}
	return all
}

// TestSpareExamples: the chapter's, and the edges that it names.
func TestSpareExamples(t *testing.T) {
	for _, c := range []struct {
		subs []api.Ask
		want []api.Spare
	}{
		{subs(), nil},
		{subs("a/+ 1", "a/b 1", "a/c 2"), spares("a/b", "a/+")},
		{subs("# 0", "+/# 0"), spares("+/#", "#")},
		{subs("+/# 0", "# 0"), spares("#", "+/#")},
		// Of one set: a greater quality makes the other one spare, wherever it stands.
		{subs("# 0", "+/# 1"), spares("#", "+/#")},
		{subs("# 1", "+/# 0"), spares("+/#", "#")},
		{subs("/# 2", "/+/# 2"), spares("/+/#", "/#")},
		{subs("a 1", "a 1"), spares("a", "a")},
		{subs("a 1", "a 2"), spares("a", "a")},
		{subs("a 2", "a 1"), spares("a", "a")},
		{subs("a 1", "a 1", "a 1"), spares("a", "a", "a", "a")},
		// One within another: what stands behind makes it spare, too, and the quality may be greater, not less.
		{subs("a 1", "+ 1"), spares("a", "+")},
		{subs("a 1", "+ 2"), spares("a", "+")},
		{subs("a 2", "+ 1"), nil},
		{subs("+ 1", "a 1"), spares("a", "+")},
		{subs("+ 1", "a 2"), nil},
		{subs("a 0", "a/# 0"), spares("a", "a/#")},
		// The first by which it is, itself spare perhaps; not the first one within which it lies.
		{subs("# 2", "a/# 2", "a/+ 2", "a/b 2"), spares("a/#", "#", "a/+", "#", "a/b", "#")},
		{subs("a/b 2", "a/+ 2", "a/# 2", "# 2"), spares("a/b", "a/+", "a/+", "a/#", "a/#", "#")},
		{subs("a/# 0", "a/+ 1", "# 2", "a/b 1"), spares("a/#", "#", "a/+", "#", "a/b", "a/+")},
		{subs("+/# 0", "# 1", "# 0"), spares("+/#", "#", "#", "+/#")},
		// A sign ahead takes no topic with a $ ahead.
		{subs("# 2", "$a 0", "$a/# 0", "+ 0"), spares("$a", "$a/#", "+", "#")},
		{subs("+/a 2", "$/a 1"), nil},
		// They only meet, or one alone holds what two have together.
		{subs("a/+ 1", "+/b 1"), nil},
		{subs("a 1", "a/+/# 1", "a/# 1"), spares("a", "a/#", "a/+/#", "a/#")},
		{subs("a 1", "a/+/# 1"), nil},
		// What is no filter matches nothing: it is spare by whatever isn't below it.
		{subs("a+ 0"), nil},
		{subs("a+ 0", "b 0"), spares("a+", "b")},
		{subs("b 0", "a+ 0"), spares("a+", "b")},
		{subs("b 0", "a+ 1"), nil},
		{subs("a+ 1", " 1", "#/a 1"), spares("", "a+", "#/a", "a+")},
		{subs("a+ 0", " 1"), spares("a+", "")},
	} {
		want(t, fmt.Sprintf("P21.5: %v", c.subs), audit.Spare(of("c", c.subs...)), c.want)
	}
	want(t, "P21.5: nothing", audit.Spare(api.Image{}), []api.Spare(nil))
}

// TestSpareSessions: session by session, in their order, each for itself; also several of one client.
func TestSpareSessions(t *testing.T) {
	m := api.Image{Sessions: []api.Session{
		{Client: "d", Subs: subs("a 1", "# 1")},
		{Client: "c", Subs: subs("# 2")},
		{Client: "c", Subs: subs("a 1", "b 1")},
		{Client: "", Subs: subs("b 1", "+ 1", "b/c 0", "# 0")},
		{Client: "\xFF"},
		{Client: "d", Subs: subs("# 1", "+/# 0", "a 1")},
	}}
	want(t, "P21.5: some sessions", audit.Spare(m), []api.Spare{{Client: "d", Filter: "a", By: "#"}, {Client: "", Filter: "b", By: "+"}, {Client: "", Filter: "b/c", By: "#"}, {Client: "d", Filter: "+/#", By: "#"}, {Client: "d", Filter: "a", By: "#"}})
}

// TestSpareQualities: numbers that are no quality are held against each other as numbers.
func TestSpareQualities(t *testing.T) {
	all := append(noQoS(), 0, 1, 2)
	for _, p := range all {
		for _, q := range all {
			var l []api.Spare
			if p <= q {
				l = append(l, api.Spare{Client: "c", Filter: "a", By: "+"})
			}
			want(t, fmt.Sprintf("P21.5: %d and %d", p, q), audit.Spare(of("c", api.Ask{Filter: "a", QoS: p}, api.Ask{Filter: "+", QoS: q})), l)
			want(t, fmt.Sprintf("P21.5: of one set: %d and %d", p, q), audit.Spare(of("c", api.Ask{Filter: "a", QoS: p}, api.Ask{Filter: "a", QoS: q})), spares("a", "a"))
		}
	}
}

// TestSpareLong: filters of MaxText bytes, and one byte more.
func TestSpareLong(t *testing.T) {
	a := strings.Repeat("a", maxText)
	x := a[:maxText-2]
	m := of("c", subs(a+" 1", x+"/+ 1", x+"/# 1", x+"/ 1", a+"a 1", x+"a/# 1")...)
	want(t, "P21.5: long filters", audit.Spare(m), spares(x+"/+", x+"/#", x+"/", x+"/+", a+"a", a, x+"a/#", a))
}

// sets tells of each text which of the topics it matches, a bit for each.
func sets(texts, topics []string) map[string]*big.Int {
	of := map[string]*big.Int{}
	for _, f := range texts {
		of[f] = new(big.Int)
		for bit, s := range topics {
			if matches(f, s) {
				of[f].SetBit(of[f], bit, 1)
			}
		}
	}
	return of
}

func within(a, b *big.Int) bool { return new(big.Int).AndNot(a, b).Sign() == 0 }

// spareOf: P21.5, and the image without what is spare.
func spareOf(m api.Image, of map[string]*big.Int) ([]api.Spare, api.Image) {
	var l []api.Spare
	left := copied(m)
	for i, s := range m.Sessions {
		left.Sessions[i].Subs = nil
	next:
		for j, x := range s.Subs {
			for k, y := range s.Subs {
				in, out := within(of[x.Filter], of[y.Filter]), within(of[y.Filter], of[x.Filter])
				if k != j && in && y.QoS >= x.QoS && !(out && x.QoS == y.QoS && k > j) {
					l = append(l, api.Spare{Client: s.Client, Filter: x.Filter, By: y.Filter})
					continue next
				}
			}
			left.Sessions[i].Subs = append(left.Sessions[i].Subs, x)
		}
	}
	return l, left
}

// TestSpareSome: P21.5 of images that no broker made.
func TestSpareSome(t *testing.T) {
	r := rand.New(rand.NewSource(215))
	filters := fewFilters()
	of := sets(append(filters, "", "a+", "#/a", "\xFF", "\x00"), fewTopics())
	found := 0
	for range 3000 {
		m := someImage(r, filters, true)
		got := audit.Spare(m)
		if all, _ := spareOf(m, of); drawn(got) != drawn(all) {
			t.Fatalf("P21.5: Spare of %v: %q, want %q", m, got, all)
		}
		found += len(got)
	}
	if found < 5000 {
		t.Errorf("only %d found", found)
	}
}

// TestSpareChangesNothing: P21.7: of images with no client twice, all qualities being some, filters or not.
func TestSpareChangesNothing(t *testing.T) {
	r := rand.New(rand.NewSource(217))
	filters, topics := fewFilters(), fewTopics()
	of := sets(append(filters, "", "a+"), topics)
	gone := 0
	for range 150 {
		var m api.Image
		for _, client := range someClients(r, false) {
			l := someSubs(r, append([]string{"", "a+"}, filters...), false)
			m.Sessions = append(m.Sessions, api.Session{Client: client, Subs: l})
		}
		all, left := spareOf(m, of)
		if got := audit.Spare(m); drawn(got) != drawn(all) {
			t.Fatalf("P21.5: Spare of %v: %q, want %q", m, got, all)
		}
		for i, s := range topics {
			x := api.Message{Topic: s, QoS: i % 3}
			if a, b := audit.Who(m, x), audit.Who(left, x); !slices.Equal(a, b) {
				t.Fatalf("P21.7: Who of %+v: %v: %v; %v: %v", x, m, a, left, b)
			}
		}
		for _, f := range filters {
			if a, b := audit.Could(m, f), audit.Could(left, f); !slices.Equal(a, b) {
				t.Fatalf("P21.7: Could of %q: %v: %v; %v: %v", f, m, a, left, b)
			}
		}
		if l := audit.Spare(left); len(l) > 0 {
			t.Fatalf("P21.5: %v: without what is spare, more is: %q", m, l)
		}
		gone += len(all)
	}
	if gone < 200 {
		t.Errorf("only %d are spare", gone)
	}
}
