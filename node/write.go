package node

import (
	"neaptide/api"
	"neaptide/block"
	"neaptide/journal"
)

// write puts a record behind the others. If it can't, the node is down, and from then on nothing is written.
func (n *Node) write(r api.Rec) {
	if !n.down {
		n.down = journal.Add(n.disk, r) != api.OK
	}
}

// sync makes safe what is written; a node that is down leaves that as it is.
func (n *Node) sync() {
	if !n.down {
		n.disk.Sync()
	}
}

// writeBlock writes a block.
func (n *Node) writeBlock(b api.Block) {
	// A block that was taken or made is right, so it has bytes.
	text, _ := block.Bytes(b)
	n.write(api.Rec{Kind: api.KindBlock, Value: block.Name(b), Text: text})
}

// writeSaid writes a vote or a decision that isn't written, and makes it safe.
func (n *Node) writeSaid(m api.Msg) {
	switch m.Kind {
	case api.KindPrepare, api.KindCommit:
		v := vote{m.Kind, m.Index, m.View}
		if _, again := n.votes[v]; again {
			return
		}
		n.votes[v] = struct{}{}
	case api.KindDecided:
		if m.Index != n.decided {
			return
		}
		n.decided++
	default:
		return
	}
	n.write(api.Rec{Kind: m.Kind, Index: m.Index, View: m.View, Value: m.Value})
	n.sync()
}
