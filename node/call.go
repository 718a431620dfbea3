package node

import (
	"neaptide/api"
	"neaptide/block"
	"neaptide/msg"
)

// call is what is sent in one call.
type call struct {
	*Node
	sent []api.Packet
}

// answer answers what is sent: nothing, if the node went down in the call, as what it says may not be on the disk then.
func (c *call) answer() []api.Packet {
	if c.down {
		return nil
	}
	return c.sent
}

// mine makes a block of its own, if the slot is a new one and it may; it answers the block's name.
func (c *call) mine(slot int) int {
	if slot <= c.chain.Slot() {
		return noBlock
	}
	c.chain.Next(slot)
	b, ok := c.chain.Make(c.me, c.pool.List())
	if !ok {
		return noBlock
	}
	if !c.take(b) {
		// It has no room among those that can be known, but is sent like any other. On the disk it tells, behind a crash, that its slot is over, so that no unlike one is ever made in it.
		c.writeBlock(b)
	}
	c.sync()
	c.send(everybody, api.Msg{Kind: api.KindBlock, Block: b})
	return block.Name(b)
}

// keep sends what the core sends, and has on the disk ahead of that what must not be said otherwise later.
func (c *call) keep(acts []api.Act) {
	for _, a := range acts {
		if a.To == everybody {
			c.writeSaid(a.Msg)
		}
		c.send(a.To, a.Msg)
	}
}

// sendBlock sends the block of a name, if it is known.
func (c *call) sendBlock(to, name int) {
	if b, ok := c.chain.Tree().Get(name); ok {
		c.send(to, api.Msg{Kind: api.KindBlock, Block: b})
	}
}

// sendAll sends messages as they are.
func (c *call) sendAll(acts []api.Act) {
	for _, a := range acts {
		c.send(a.To, a.Msg)
	}
}

// send sends a message of this node. One that can't be (of a value, say, that only a disk written by others can hold) has no bytes that could be sent.
func (c *call) send(to int, m api.Msg) {
	m.From = c.me
	if b, e := msg.Bytes(m); e == api.OK {
		c.sent = append(c.sent, api.Packet{To: to, Data: b})
	}
}
