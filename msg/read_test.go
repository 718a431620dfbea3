package msg

import (
	"bytes"
	"slices"
	"testing"

	"neaptide/api"
)

// refused tells it, if Read finds a message.
func refused(t *testing.T, why string, b []byte) {
	t.Helper()
	if m, e := Read(b); !Same(m, api.Msg{}) || e != api.ErrMsg {
		t.Errorf("%s: Read(%v): %v %d", why, b[:min(len(b), 40)], m, e)
	}
}

// TestReadMarkOfAnother: a message whose mark is another node's isn't read.
func TestReadMarkOfAnother(t *testing.T) {
	for _, m := range rightOnes() {
		for node := range 9 {
			if node != m.From {
				refused(t, "another's mark", under(node, bodyForm(m)))
			}
		}
		refused(t, "the mark of nobody", under(-1, bodyForm(m)))
	}
}

// TestReadOtherMark: of a mark no bit can be another.
func TestReadOtherMark(t *testing.T) {
	for _, c := range bodies {
		mark := markOf(c.m.From, c.body)
		for bit := range 64 {
			refused(t, "a bit of the mark", append(groups(mark^1<<bit), c.body...))
		}
		for _, n := range []uint64{0, 1, mark - 1, mark + 1, ^mark, mark >> 1, mark << 1, mark >> 32} {
			refused(t, "a mark", append(groups(n), c.body...))
		}
		refused(t, "no mark", c.body)
		refused(t, "two marks", append(groups(mark), under(c.m.From, c.body)...))
		refused(t, "a mark behind", append(bytes.Clone(c.body), groups(mark)...))
		last := append(groups(mark), 0)
		last[len(last)-2] |= 128
		refused(t, "a group too many", append(last, c.body...))
	}
}

// TestReadWrong: what can't be isn't read, though it is marked by who says it.
func TestReadWrong(t *testing.T) {
	tried := 0
	for _, m := range wrongOnes() {
		b := m.Block
		nums := []int{m.Kind, m.From, m.Index, m.View, m.Value, m.Prepared, m.Tx.ID, m.Tx.Fee, b.Slot, b.Miner, b.Variant, b.Parent}
		for _, x := range b.Txs {
			nums = append(nums, x.ID, x.Fee)
		}
		// A part that the kind doesn't have is not in its body.
		hidden := m.Kind != 0 && m.Tx != api.Tx{} || m.Kind != 1 && (b.Slot != 0 || b.Miner != 0 || b.Variant != 0 || b.Parent != 0 || len(b.Txs) > 0)
		if slices.Min(nums) >= -1 && !hidden {
			tried++
			refused(t, "wrong", form(m))
		}
	}
	if tried < 500 {
		t.Error("too little was tried:", tried)
	}
}

// TestReadBodies: bodies that are marked as they are to be, but are nobody's.
func TestReadBodies(t *testing.T) {
	for _, c := range []struct {
		why  string
		from int
		body []byte
	}{
		{"nothing", 0, nil}, {"one number", 0, []byte{1}}, {"two numbers", 0, []byte{1, 1}}, {"five numbers", 0, []byte{3, 1, 1, 1, 1}},
		{"something behind", 0, []byte{3, 1, 1, 1, 1, 1, 1}}, {"something behind", 0, []byte{3, 1, 1, 1, 1, 1, 0}}, {"something behind", 0, []byte{7, 1, 1, 1, 1, 1, 2, 6}}, {"a block behind", 0, []byte{4, 1, 1, 1, 1, 0, 2, 1, 1, 1, 1}}, {"a transaction behind", 0, []byte{5, 1, 1, 1, 1, 1, 6, 3}},
		{"no transaction", 0, []byte{1, 1, 1, 1, 1, 1}}, {"half of one", 0, []byte{1, 1, 1, 1, 1, 1, 6}}, {"more than one", 0, []byte{1, 1, 1, 1, 1, 1, 6, 3, 1}}, {"two", 0, []byte{1, 1, 1, 1, 1, 1, 6, 3, 7, 3}}, {"a list", 0, []byte{1, 1, 1, 1, 1, 1, 2, 6, 3}}, {"a block instead", 0, []byte{1, 1, 1, 1, 1, 1, 2, 1, 1, 1, 1}},
		{"no block", 0, []byte{2, 1, 1, 1, 1, 1}}, {"a block without a list", 0, []byte{2, 1, 1, 1, 1, 1, 2, 1, 1, 1}}, {"more than a block", 0, []byte{2, 1, 1, 1, 1, 1, 2, 1, 1, 1, 1, 1}}, {"a transaction instead", 0, []byte{2, 1, 1, 1, 1, 1, 6, 3}},
		{"group too many, kind", 0, []byte{131, 0, 1, 1, 1, 1, 1}}, {"group too many, from", 0, []byte{3, 129, 0, 1, 1, 1, 1}}, {"group too many, index", 0, []byte{7, 1, 130, 0, 1, 1, 1}}, {"group too many, view", 0, []byte{5, 1, 1, 130, 0, 1, 1}}, {"group too many, value", 0, []byte{3, 1, 1, 1, 129, 0, 1}}, {"group too many, prepared", 0, []byte{3, 1, 1, 1, 1, 129, 0}},
		{"group too many, id", 0, []byte{1, 1, 1, 1, 1, 1, 134, 0, 3}}, {"group too many, fee", 0, []byte{1, 1, 1, 1, 1, 1, 6, 131, 0}}, {"group too many, slot", 0, []byte{2, 1, 1, 1, 1, 1, 130, 0, 1, 1, 1, 1}}, {"group too many, how many", 0, []byte{2, 1, 1, 1, 1, 1, 2, 1, 1, 1, 129, 0}},
		{"kind -1", 0, []byte{0, 1, 1, 1, 1, 1}}, {"kind 7", 0, []byte{8, 1, 1, 1, 1, 1}}, {"from -1", -1, []byte{3, 0, 1, 1, 1, 1}}, {"from 7", 7, []byte{3, 8, 1, 1, 1, 1}},
		{"prepared 0 of an ask", 0, []byte{3, 1, 1, 1, 1, 0}}, {"prepared 1 of an ask", 0, []byte{3, 1, 1, 1, 1, 2}},
		{"beyond layer 1", 0, []byte{3, 1, 1, 1, 255, 255, 255, 255, 255, 255, 255, 255, 255, 1, 1}}, {"goes round", 0, []byte{131, 128, 128, 128, 16, 1, 1, 1, 1, 1}}, {"goes round", 0, []byte{3, 129, 128, 128, 128, 16, 1, 1, 1, 1}},
		{"long", 0, append([]byte{3, 1, 1, 1, 1, 1}, make([]byte, 1<<20)...)}, {"long", 0, bytes.Repeat([]byte{2}, 1<<20)},
	} {
		refused(t, c.why, under(c.from, c.body))
	}
	for _, b := range [][]byte{nil, {}, {0}, {1}, {128}, bytes.Repeat([]byte{255}, 9), bytes.Repeat([]byte{255}, 1<<20), make([]byte, 1<<20), bytes.Repeat([]byte{1}, 7)} {
		refused(t, "no message", b)
	}
}

// TestReadCutOff: no part of what is read is read too, nor is what has something behind it.
func TestReadCutOff(t *testing.T) {
	for _, c := range bodies {
		b := under(c.m.From, c.body)
		for n := range b {
			refused(t, "cut off", b[:n])
			refused(t, "begins later", b[n+1:])
		}
		for n := range c.body {
			refused(t, "cut off under its mark", under(c.m.From, c.body[:n]))
		}
		for more := range 256 {
			refused(t, "more", append(bytes.Clone(b), byte(more)))
			refused(t, "more under its mark", under(c.m.From, append(bytes.Clone(c.body), byte(more))))
		}
		refused(t, "twice", append(bytes.Clone(b), b...))
	}
}

// TestReadChangedByte: of which a byte is any other one.
func TestReadChangedByte(t *testing.T) {
	for _, c := range bodies {
		b := under(c.m.From, c.body)
		for at := range b {
			for other := 1; other < 256; other++ {
				b[at] ^= byte(other)
				refused(t, "a byte", b)
				b[at] ^= byte(other)
			}
		}
	}
}
