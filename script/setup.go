package script

import "crier/api"

// setup reads a setup, all of it.
func (r *reader) setup() api.Net {
	n := api.Net{Config: r.config()}
	for r.more() {
		n.Clients = append(n.Clients, r.who())
	}
	return n
}

func (r *reader) config() api.Config {
	c := api.Config{List: r.either("tries", "list")}
	r.named("cache", &c.Cache)
	r.named("window", &c.Window)
	r.named("queue", &c.Queue)
	r.named("subs", &c.Subs)
	r.named("retained", &c.Retained)
	r.named("sessions", &c.Sessions)
	r.named("most", &c.Most)
	r.named("patience", &c.Patience)
	for r.has("user") {
		c.Users = append(c.Users, r.user())
	}
	return c
}

func (r *reader) user() api.User {
	var u api.User
	r.want("user")
	r.text(&u.Name)
	r.text(&u.Word)
	return u
}

func (r *reader) who() api.Who {
	var w api.Who
	r.want("client")
	r.text(&w.Name)
	w.Clean = r.either("lasting", "clean")
	r.named("keep", &w.KeepAlive)
	r.named("window", &w.Window)
	return w
}

// named wants a word and a number.
func (r *reader) named(s string, n *int) {
	r.want(s)
	r.number(n)
}
