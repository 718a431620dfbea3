package cluster

import (
	"bytes"

	"neaptide/api"
	"neaptide/msg"
	"neaptide/net"
)

// Step: something happens; does it?
func (c *Cluster) Step(s api.Step) bool {
	switch s.Kind {
	case api.StepTick:
		return c.tick()
	case api.StepDeliver:
		return c.deliver(s.N)
	case api.StepDrop:
		_, ok := c.way.Take(s.N)
		return ok
	case api.StepDouble:
		return c.way.Double(s.N)
	case api.StepCut:
		c.sides.Cut(s.N)
		return true
	}
	m, ok := c.honest(s.Node)
	return ok && c.stepOf(m, s)
}

// stepOf has something happen to an honest node; does it?
func (c *Cluster) stepOf(m *member, s api.Step) bool {
	switch s.Kind {
	case api.StepSubmit:
		return c.submit(m, s.Tx)
	case api.StepSleep:
		return m.sleep()
	case api.StepWake:
		return m.wake(c.slot)
	case api.StepCrash:
		return m.crash(s.N)
	case api.StepStart:
		return m.start(c.slot)
	case api.StepInject:
		return c.inject(m, s.Data)
	case api.StepRoom:
		m.disk.Limit(s.N)
		return true
	}
	return false
}

// tick begins the next slot.
func (c *Cluster) tick() bool {
	if c.slot >= api.MaxSlots {
		return false
	}
	c.slot++
	for _, m := range c.members {
		if m != nil && m.isAble() {
			c.emit(m, m.node.Tick(c.slot))
		}
	}
	return true
}

// deliver hands over what is at a place on the way.
func (c *Cluster) deliver(at int) bool {
	p, ok := c.way.At(at)
	if !ok {
		return false
	}
	// Only an honest one ever has anything on its way to it.
	m := c.members[p.to]
	if !m.isAble() || !c.sides.Same(p.from, p.to) {
		return false
	}
	// Ahead of what it sends by that, which may need the room.
	c.way.Take(at)
	c.emit(m, m.node.Handle(p.data))
	return true
}

// submit hands a transaction in.
func (c *Cluster) submit(m *member, t api.Tx) bool {
	if !m.isAble() {
		return false
	}
	packets, e := m.node.Submit(t)
	if e != api.OK {
		return false
	}
	c.emit(m, packets)
	return true
}

// inject puts on its way to a node what a bad one says.
func (c *Cluster) inject(m *member, data []byte) bool {
	// Room is asked for first: what the gate lets pass may take a block's name by that.
	if c.way.Len() >= api.MaxBag || !c.gate.Pass(data) {
		return false
	}
	// What passes can be read.
	said, _ := msg.Read(data)
	return c.way.Put(parcel{from: said.From, to: m.self.Me, data: bytes.Clone(data)})
}

// emit puts on its way what a node sends.
func (c *Cluster) emit(m *member, packets []api.Packet) {
	from := m.self.Me
	for _, p := range packets {
		c.gate.Say(p.Data)
		for _, to := range net.Spread(p.To, from, len(c.members)) {
			if c.Honest(to) {
				// Where there is no room it is lost.
				c.way.Put(parcel{from: from, to: to, data: p.Data})
			}
		}
	}
}
