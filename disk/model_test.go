package disk

import (
	"math"
	"testing"

	"neaptide/api"
)

// model is a disk byte by byte: what each one is, and whether it is synced.
type model struct {
	cells []cell
	room  int
}

type cell struct {
	value byte
	safe  bool
}

func bound(room int) int {
	if room < 0 {
		return 0
	}
	if room > most {
		return most
	}
	return room
}

func (m *model) add(b []byte) api.Errno {
	if len(b) > 0 && len(m.cells)+len(b) > m.room {
		return api.ErrFull
	}
	for _, value := range b {
		m.cells = append(m.cells, cell{value: value})
	}
	return api.OK
}

func (m *model) sync() {
	for i := range m.cells {
		m.cells[i].safe = true
	}
}

func (m *model) crash(keep int) {
	var left []cell
	for _, c := range m.cells {
		if !c.safe {
			if keep < 1 {
				break
			}
			keep--
		}
		left = append(left, cell{c.value, true})
	}
	m.cells = left
}

func (m *model) cut(n int) {
	var left []cell
	for i, c := range m.cells {
		if i < n {
			left = append(left, c)
		}
	}
	m.cells = left
}

// told answers what is on it, how many are synced and for how many there is room.
func (m *model) told() (string, int, int) {
	on, synced, room := "", 0, m.room
	for _, c := range m.cells {
		on += string([]byte{c.value})
		if room--; c.safe {
			synced++
		}
	}
	return on, synced, max(room, 0)
}

// TestAgainstModel plays calls in an order that a number leads to, on a disk and on the model of one.
func TestAgainstModel(t *testing.T) {
	odd := []int{math.MinInt, -1 << 32, -2, -1, 1 << 16, 1 << 32, math.MaxInt - 1, math.MaxInt}
	for seed := range uint64(60) {
		state := seed*0x9E3779B97F4A7C15 + 1
		next := func(n int) int {
			state = state*6364136223846793005 + 1442695040888963407
			return int(state>>33) % n
		}
		number := func() int {
			if next(6) == 0 {
				return odd[next(len(odd))]
			}
			return next(24)
		}
		room := number()
		d, m := New(room), &model{room: bound(room)}
		for i := range 400 {
			call, n := next(10), number()
			switch call {
			case 0, 1, 2, 3, 4:
				b := make([]byte, next(9))
				for j := range b {
					b[j] = byte(next(256))
				}
				if got, want := d.Append(b), m.add(b); got != want {
					t.Fatalf("seed %d, call %d: %d, not %d", seed, i, got, want)
				}
			case 5, 6:
				d.Sync()
				m.sync()
			case 7:
				d.Crash(n)
				m.crash(n)
			case 8:
				d.Cut(n)
				m.cut(n)
			case 9:
				// Mostly small, so that a disk is often full and often beyond its room.
				d.Limit(n)
				m.room = bound(n)
			}
			on, synced, left := m.told()
			if string(d.Bytes()) != on || d.Synced() != synced || d.Room() != left {
				t.Fatalf("seed %d, call %d (%d, %d): %q %d %d, not %q %d %d", seed, i, call, n, d.Bytes(), d.Synced(), d.Room(), on, synced, left)
			}
		}
	}
}
