package cluster

import (
	"slices"

	"neaptide/api"
	"neaptide/disk"
	"neaptide/node"
)

// member is an honest node, and what of it outlives a crash.
type member struct {
	self api.Self
	disk *disk.Disk
	// node is nil while it doesn't run.
	node  *node.Node
	awake bool
}

// newMember answers the node of a number, which runs on an empty disk.
func newMember(c api.Config, me int) *member {
	self := api.Self{Me: me, Stakes: slices.Clone(c.Stakes), Draws: slices.Clone(c.Draws), Deep: c.Deep, Base: c.Base, Most: c.Most}
	d := disk.New(c.Room)
	return &member{self: self, disk: d, node: node.New(self, d), awake: true}
}

// runs tells whether it runs, be it down or not.
func (m *member) runs() bool { return m.node != nil }

// isUp tells whether it runs and isn't down.
func (m *member) isUp() bool { return m.runs() && !m.node.Down() }

// isAble tells whether it does anything.
func (m *member) isAble() bool { return m.isUp() && m.awake }

// sleep has it do nothing for a while; false, if it sleeps.
func (m *member) sleep() bool {
	if !m.awake {
		return false
	}
	m.awake = false
	return true
}

// wake ends its sleep; false, if it doesn't sleep.
func (m *member) wake(slot int) bool {
	if m.awake {
		return false
	}
	m.awake = true
	if m.runs() {
		m.node.Clock(slot)
	}
	return true
}

// crash ends it, and leaves what its disk keeps; false, if it doesn't run.
func (m *member) crash(keep int) bool {
	if !m.runs() {
		return false
	}
	m.node = nil
	m.disk.Crash(keep)
	return true
}

// start has it run again, with what its disk tells; false, if it runs.
func (m *member) start(slot int) bool {
	if m.runs() {
		return false
	}
	m.node = node.New(m.self, m.disk)
	// Its disk tells of no slot but those of its blocks: of a later one it would take no block till the next tick.
	m.node.Clock(slot)
	return true
}
