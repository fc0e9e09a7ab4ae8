package broker

import (
	"crier/api"
	"crier/image"
	"crier/session"
)

// From makes one of an image.
func From(c api.Config, im api.Image) (*Broker, api.Errno) {
	if _, e := image.Check(im); e != api.OK {
		return nil, e
	}
	b := New(c)
	if !b.hasRoom(im) {
		return nil, api.ErrBrokerMany
	}
	b.autos = im.Autos
	for _, s := range im.Sessions {
		if e := b.restore(s); e != api.OK {
			return nil, e
		}
	}
	for _, m := range im.Retained {
		b.router.Retain(m)
	}
	return b, api.OK
}

// hasRoom tells whether the setup allows all that an image has.
func (b *Broker) hasRoom(im api.Image) bool {
	if len(im.Sessions) > b.setup.Sessions || len(im.Retained) > b.setup.Retained {
		return false
	}
	for _, s := range im.Sessions {
		if len(s.Subs) > b.setup.Subs || len(s.Window.Flight) > b.setup.Window || len(s.Window.Queue) > b.setup.Queue {
			return false
		}
	}
	return true
}

// restore adds a session of an image.
func (b *Broker) restore(s api.Session) api.Errno {
	made, e := session.From(s, b.setup)
	if e != api.OK {
		return e
	}
	b.add(made)
	for _, a := range s.Subs {
		b.router.Subscribe(made.Key(), a)
	}
	return api.OK
}
