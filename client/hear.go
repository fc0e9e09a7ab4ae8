package client

import "crier/api"

// Push: bytes come from the broker.
func (c *Client) Push(b []byte) []byte {
	if c.phase == down {
		return nil
	}
	var sent []byte
	c.frame.Put(b)
	for c.phase != down {
		p, whole, err := c.frame.Next()
		if err != nil {
			c.Down()
		}
		if !whole {
			break
		}
		sent = append(sent, c.hear(p)...)
	}
	return sent
}

// hear takes a packet, and tells what answers it.
func (c *Client) hear(p api.Packet) []byte {
	if c.phase == asking {
		return c.greeted(p)
	}
	switch p.Kind {
	case api.Publish:
		return c.receive(p)
	case api.Pubrel:
		c.came.drop(p.ID)
		return c.send(api.Packet{Kind: api.Pubcomp, ID: p.ID})
	case api.Puback:
		fallthrough
	case api.Pubrec:
		fallthrough
	case api.Pubcomp:
		return c.send(c.window.Ack(p.Kind, p.ID)...)
	case api.Suback:
		fallthrough
	case api.Unsuback:
		c.settle(p.ID)
		fallthrough
	case api.Pingresp:
		return nil
	}
	c.Down()
	return nil
}

// greeted takes the first packet of a link, which is to be a Connack.
func (c *Client) greeted(p api.Packet) []byte {
	if p.Kind != api.Connack {
		c.Down()
		return nil
	}
	c.code = p.Code
	if p.Code != api.Accepted {
		c.Down()
		return nil
	}
	c.phase, c.present = up, p.Present
	if !p.Present {
		c.came = numbers{}
	}
	return c.send(c.window.Up()...)
}

// receive takes a message, and tells its acknowledgement.
func (c *Client) receive(p api.Packet) []byte {
	switch p.Msg.QoS {
	case 1:
		c.tell(p)
		return c.send(api.Packet{Kind: api.Puback, ID: p.ID})
	case 2:
		if !c.came.has(p.ID) {
			c.tell(p)
		}
		c.came.put(p.ID)
		return c.send(api.Packet{Kind: api.Pubrec, ID: p.ID})
	}
	c.tell(p)
	return nil
}

func (c *Client) tell(p api.Packet) {
	c.told = append(c.told, api.Told{Msg: p.Msg, Dup: p.Dup})
}

// settle: a Subscribe or Unsubscribe was answered. A number that none of them has is neither reserved nor open.
func (c *Client) settle(id int) {
	c.window.Free(id)
	c.open.drop(id)
}
