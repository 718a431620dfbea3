package cluster

import (
	"bytes"
	"math"
	"slices"
	"testing"

	"neaptide/api"
	"neaptide/disk"
	"neaptide/gate"
	"neaptide/msg"
	"neaptide/node"
)

// dice answers numbers that a seed leads to.
type dice uint64

func (d *dice) next(n int) int {
	*d = *d*6364136223846793005 + 1442695040888963407
	return int(*d>>33) % n
}

// model does what a cluster does out of the nodes and disks themselves, with lists and a mask.
type model struct {
	config api.Config
	nodes  [api.MaxNodes]*node.Node
	disks  [api.MaxNodes]*disk.Disk // nil for a bad one, and for none
	asleep [api.MaxNodes]bool
	gate   *gate.Gate
	way    []parcel
	mask   int
	slot   int
}

func modelOf(c api.Config) *model {
	m := &model{config: c, gate: gate.New(c.Bad)}
	for i := range c.Stakes {
		if !slices.Contains(c.Bad, i) {
			m.disks[i] = disk.New(c.Room)
			m.nodes[i] = node.New(selfOf(c, i), m.disks[i])
		}
	}
	return m
}

func (m *model) isHonest(i int) bool { return i >= 0 && i < api.MaxNodes && m.disks[i] != nil }
func (m *model) isUp(i int) bool     { return m.isHonest(i) && m.nodes[i] != nil && !m.nodes[i].Down() }
func (m *model) isAble(i int) bool   { return m.isUp(i) && !m.asleep[i] }

// put answers whether there was room.
func (m *model) put(p parcel) bool {
	if len(m.way) >= 4000 {
		return false
	}
	m.way = append(m.way, p)
	return true
}

func (m *model) emit(from int, packets []api.Packet) {
	for _, p := range packets {
		m.gate.Say(p.Data)
		for to := range m.disks {
			if m.isHonest(to) && to != from && (p.To < 0 || p.To == to) {
				m.put(parcel{from, to, p.Data})
			}
		}
	}
}

// step is Step; the kinds are the numbers of the chapter.
func (m *model) step(s api.Step) bool {
	isThere := s.N >= 0 && s.N < len(m.way)
	switch i := s.Node; {
	case s.Kind == 0 && m.slot < 200:
		m.slot++
		for j := range m.nodes {
			if m.isAble(j) {
				m.emit(j, m.nodes[j].Tick(m.slot))
			}
		}
	case s.Kind == 1 && isThere:
		p := m.way[s.N]
		if !m.isAble(p.to) || m.mask>>p.from&1 != m.mask>>p.to&1 {
			return false
		}
		m.way = slices.Concat(m.way[:s.N], m.way[s.N+1:])
		m.emit(p.to, m.nodes[p.to].Handle(p.data))
	case s.Kind == 2 && isThere:
		m.way = slices.Concat(m.way[:s.N], m.way[s.N+1:])
	case s.Kind == 3 && isThere:
		return m.put(m.way[s.N])
	case s.Kind == 4 && m.isAble(i):
		packets, e := m.nodes[i].Submit(s.Tx)
		m.emit(i, packets)
		return e == 0
	case s.Kind == 5 && m.isHonest(i) && !m.asleep[i]:
		m.asleep[i] = true
	case s.Kind == 6 && m.isHonest(i) && m.asleep[i]:
		m.asleep[i] = false
		if m.nodes[i] != nil {
			m.nodes[i].Clock(m.slot)
		}
	case s.Kind == 7 && m.isHonest(i) && m.nodes[i] != nil:
		m.nodes[i] = nil
		m.disks[i].Crash(s.N)
	case s.Kind == 8 && m.isHonest(i) && m.nodes[i] == nil:
		m.nodes[i] = node.New(selfOf(m.config, i), m.disks[i])
		m.nodes[i].Clock(m.slot)
	case s.Kind == 9:
		m.mask = s.N
	case s.Kind == 10 && m.isHonest(i) && len(m.way) < 4000 && m.gate.Pass(s.Data):
		said, _ := msg.Read(s.Data)
		return m.put(parcel{said.From, i, bytes.Clone(s.Data)})
	case s.Kind == 11 && m.isHonest(i):
		m.disks[i].Limit(s.N)
	default:
		return false
	}
	return true
}

func (m *model) look() look {
	l := look{slot: m.slot, way: m.way}
	for i := range l.nodes {
		if !m.isHonest(i) {
			continue
		}
		s := &l.nodes[i]
		s.honest, s.awake = true, !m.asleep[i]
		if n := m.nodes[i]; m.isUp(i) {
			*s = seen{true, true, s.awake, n.Tip(), n.Confirmed(), n.Decisions(), n.Final(), n.Avail()}
		}
		l.disks = append(l.disks, storedOn(m.disks[i]))
	}
	return l
}

// twins is a cluster, its model, and what happens to both.
type twins struct {
	*dice
	c     *Cluster
	m     *model
	nodes int
	bad   []int
}

func newTwins(t *testing.T, seed int) *twins {
	t.Helper()
	d := dice(seed)
	nodes := 1 + d.next(7)
	var bad []int
	for range d.next(2) * d.next(nodes+1) {
		bad = append(bad, d.next(nodes))
	}
	config := api.Config{Bad: bad, Deep: d.next(3), Base: 1 + d.next(2), Most: 1 + d.next(4), Room: 65536}
	for range nodes {
		config.Stakes = append(config.Stakes, 1+d.next(2)*d.next(9))
	}
	for range 200 - 40*d.next(2) {
		config.Draws = append(config.Draws, d.next(128)&d.next(128))
	}
	if d.next(6) == 0 {
		config.Room = d.next(1500)
	}
	return &twins{&d, begin(t, config), modelOf(config), nodes, bad}
}

// anyone answers a node that most often is one.
func (x *twins) anyone() int {
	if x.next(20) == 0 {
		return far[x.next(len(far))]
	}
	return x.next(x.nodes)
}

// place answers a place at which most often something is.
func (x *twins) place() int {
	if x.next(20) == 0 {
		return far[x.next(len(far))]
	}
	return x.next(len(x.m.way) + 1)
}

// lie answers what somebody may say, most often a bad one.
func (x *twins) lie() api.Msg {
	from := x.next(x.nodes)
	if len(x.bad) > 0 && x.next(8) > 0 {
		from = x.bad[x.next(len(x.bad))]
	}
	slot := max(1, x.m.slot-x.next(3))
	value := []int{0, of(slot, from), of(slot, x.next(x.nodes)), of(max(1, slot-1), x.next(x.nodes))}[x.next(4)]
	m := api.Msg{Kind: x.next(7), From: from, Value: value}
	switch m.Kind {
	case api.KindTx:
		m.Value, m.Tx = 0, api.Tx{ID: 1 + x.next(40), Fee: x.next(5)}
	case api.KindBlock:
		m.Value, m.Block = 0, on(value, slot+1, from, 1+x.next(40))
	case api.KindPropose:
		m.Prepared = -1
		m.Index = x.next(x.m.slot + 1)
	case api.KindPrepare, api.KindCommit:
		m.View = x.next(3)
		m.Index = x.next(x.m.slot + 1)
	case api.KindDecided:
		m.Index = x.next(x.m.slot + 1)
	}
	return m
}

// data answers bytes that may be injected, or not.
func (x *twins) data(t *testing.T) []byte {
	t.Helper()
	data := dataOf(t, x.lie())
	if len(x.m.way) > 0 && x.next(3) == 0 {
		data = bytes.Clone(x.m.way[x.next(len(x.m.way))].data)
	}
	switch x.next(15) {
	case 0:
		data = data[:x.next(len(data))]
	case 1:
		data[x.next(len(data))] ^= byte(1 + x.next(255))
	}
	return data
}

// ready answers a place from which most often something can be delivered.
func (x *twins) ready() int {
	at := x.place()
	for try := 0; try < 20 && at >= 0 && at < len(x.m.way); try++ {
		if p := x.m.way[at]; x.m.isAble(p.to) && x.m.mask>>p.from&1 == x.m.mask>>p.to&1 {
			break
		}
		at = x.next(len(x.m.way))
	}
	return at
}

// step answers anything that may happen, most often that something is delivered.
func (x *twins) step(t *testing.T) api.Step {
	t.Helper()
	switch what := x.next(200); {
	case what < 4:
		return tick()
	case what < 10:
		return submit(x.anyone(), x.next(60), x.next(9)-1)
	case what < 13:
		return drop(x.place())
	case what < 16:
		return double(x.place())
	case what < 17:
		return sleep(x.anyone())
	case what < 21:
		return wake(x.anyone())
	case what < 22:
		return crash(x.anyone(), []int{0, 1, 30, math.MaxInt, math.MinInt}[x.next(5)])
	case what < 27:
		return start(x.anyone())
	case what < 28:
		return cut(x.next(2) * x.next(2) * x.next(300))
	case what < 37:
		return inject(x.anyone(), x.data(t))
	case what < 38:
		return room(x.anyone(), []int{x.next(900), 65536, math.MaxInt, 65536, 65536, math.MinInt}[x.next(6)])
	case what < 39:
		return api.Step{Kind: far[x.next(len(far))] | 64, Node: x.next(7), N: x.next(5)}
	}
	if len(x.m.way) == 0 && x.next(3) == 0 {
		return tick()
	}
	return deliver(x.ready())
}

// TestModel: whatever happens, it answers, and leads to, what the model does.
func TestModel(t *testing.T) {
	var done, not [12]int
	decided, full := 0, 0
	for seed := range 150 {
		x := newTwins(t, seed)
		if seed%5 == 0 {
			x.fillBoth()
		}
		for turn := range 800 {
			s := x.step(t)
			want := x.m.step(s)
			if got := x.c.Step(s); got != want || x.c.Len() != len(x.m.way) || x.c.Slot() != x.m.slot {
				t.Fatalf("seed %d, turn %d: %+v: %v, on their way are %d, slot %d, not %v, %d, %d", seed, turn, s, got, x.c.Len(), x.c.Slot(), want, len(x.m.way), x.m.slot)
			}
			if len(x.m.way) == api.MaxBag {
				full++
			}
			if turn%97 == 0 || len(x.m.way) < 100 && turn%7 == 0 {
				if got, want := lookAt(x.c), x.m.look(); !got.same(want) {
					t.Fatalf("seed %d, turn %d: %+v leads to\n%+v, not\n%+v", seed, turn, s, got, want)
				}
			}
			if s.Kind < 0 || s.Kind > 11 {
				continue
			}
			if want {
				done[s.Kind]++
			} else {
				not[s.Kind]++
			}
		}
		for i := range api.MaxNodes {
			decided += len(x.c.Decisions(i))
		}
	}
	for kind := range done {
		always := kind == api.StepTick || kind == api.StepCut
		if done[kind] < 100 || not[kind] < 20 && !always {
			t.Errorf("kind %d is done %d times, and not %d times", kind, done[kind], not[kind])
		}
	}
	if decided < 500 || full < 500 {
		t.Errorf("too little happens: %d are decided, and it is full %d times", decided, full)
	}
	t.Log("done, not done, decided, full:", done, not, decided, full)
}

// fillBoth has nearly no room left on the way.
func (x *twins) fillBoth() {
	for i := range x.nodes {
		x.m.step(submit(i, 70+i, 2))
		x.c.Step(submit(i, 70+i, 2))
	}
	for len(x.m.way) > 0 && len(x.m.way) < api.MaxBag-5 {
		x.m.step(double(0))
		x.c.Step(double(0))
	}
}
