package msg

import (
	"bytes"
	"slices"
	"testing"

	"neaptide/api"
)

// dice answers numbers that a seed leads to.
type dice uint64

func (d *dice) next(n int) int {
	*d = *d*6364136223846793005 + 1442695040888963407
	return int(*d>>33) % n
}

// canBe tells, apart from the lower layers, whether a message can be.
func canBe(m api.Msg) bool {
	if m.Kind < 0 || m.Kind > 6 || m.From < 0 || m.From > 6 {
		return false
	}
	has := map[string]bool{}
	for _, part := range []string{"tx", "block", "index", "view", "value", "prepared"} {
		has[part] = bytes.Contains([]byte(" "+partsOf[m.Kind]+" "), []byte(" "+part+" "))
	}
	name := m.Value == 0 || nameCanBe(m.Value)
	switch {
	case m.Index < 0 || m.Index > 1000 || m.View < 0 || m.View > 1000:
		return false
	case !has["index"] && m.Index != 0 || !has["view"] && m.View != 0 || !has["value"] && m.Value != 0 || !has["prepared"] && m.Prepared != 0:
		return false
	case has["prepared"] && (m.Prepared < -1 || m.Prepared > m.View-1):
		return false
	case !name && (m.Value != -1 || m.Kind != 4 && m.Kind != 5):
		return false
	case has["tx"] && !txCanBe(m.Tx) || !has["tx"] && (m.Tx.ID != 0 || m.Tx.Fee != 0):
		return false
	}
	b := m.Block
	if !has["block"] {
		return b.Slot == 0 && b.Miner == 0 && b.Variant == 0 && b.Parent == 0 && len(b.Txs) == 0
	}
	return blockCanBe(b)
}

func nameCanBe(n int) bool { return n>>16 >= 1 && n>>16 <= 4095 && n>>8&255 <= 6 }

func txCanBe(x api.Tx) bool { return x.ID >= 1 && x.ID <= 1000000 && x.Fee >= 0 && x.Fee <= 1000 }

func blockCanBe(b api.Block) bool {
	ids := map[int]bool{}
	for _, x := range b.Txs {
		if !txCanBe(x) {
			return false
		}
		ids[x.ID] = true
	}
	if b.Parent != 0 && (!nameCanBe(b.Parent) || b.Parent>>16 >= b.Slot) {
		return false
	}
	return b.Slot >= 1 && b.Slot <= 4095 && b.Miner >= 0 && b.Miner <= 6 && b.Variant >= 0 && b.Variant <= 255 && len(b.Txs) <= 3 && len(ids) == len(b.Txs)
}

// loose answers the numbers of bytes, in whatever form: who asks holds their form against the bytes then.
func loose(b []byte) []uint64 {
	var nums []uint64
	n, shift := uint64(0), 0
	for _, c := range b {
		n |= uint64(c&127) << shift
		shift += 7
		if c < 128 {
			nums = append(nums, n)
			n, shift = 0, 0
		}
	}
	return nums
}

// wanted answers the message that Read is to find, if any.
func wanted(b []byte) (api.Msg, bool) {
	var nums []int
	for _, n := range loose(b) {
		nums = append(nums, int(n-1))
	}
	if len(nums) < 7 {
		return api.Msg{}, false
	}
	nums = nums[1:]
	m := api.Msg{Kind: nums[0], From: nums[1], Index: nums[2], View: nums[3], Value: nums[4], Prepared: nums[5]}
	more := nums[6:]
	if m.Kind == 0 && len(more) == 2 {
		m.Tx = api.Tx{ID: more[0], Fee: more[1]}
	}
	if m.Kind == 1 && len(more) >= 5 {
		m.Block = api.Block{Slot: more[0], Miner: more[1], Variant: more[2], Parent: more[3]}
		for i := 5; i+1 < len(more); i += 2 {
			m.Block.Txs = append(m.Block.Txs, api.Tx{ID: more[i], Fee: more[i+1]})
		}
	}
	if !canBe(m) || !bytes.Equal(form(m), b) {
		return api.Msg{}, false
	}
	return m, true
}

// near answers a number near the bounds, or among them.
func near(d *dice) int {
	l := []int{-2, -1, 0, 1, 2, 3, 5, 6, 7, 999, 1000, 1001, 65535, 65536, 65536 + 7*256, name(2, 3, 4), name(4095, 6, 255), 1 << 32, 1<<63 - 1}
	return l[d.next(len(l))]
}

// anyMsg answers a message that can be, or one of which some parts are others.
func anyMsg(d *dice, all []api.Msg) api.Msg {
	m := Copy(all[d.next(len(all))])
	for range d.next(3) {
		n := near(d)
		parts := []*int{&m.Kind, &m.From, &m.Index, &m.View, &m.Value, &m.Prepared, &m.Tx.ID, &m.Tx.Fee, &m.Block.Slot, &m.Block.Miner, &m.Block.Variant, &m.Block.Parent}
		*parts[d.next(len(parts))] = n
		if d.next(4) == 0 {
			m.Block.Txs = append(m.Block.Txs, api.Tx{ID: near(d), Fee: near(d)})
		}
	}
	return m
}

// TestAgainstModel: any messages, as they come.
func TestAgainstModel(t *testing.T) {
	d := dice(1)
	all := append(rightOnes()[:60], rightOnes()[1000:1500]...)
	for _, m := range good() {
		for range 60 {
			all = append(all, m)
		}
	}
	right := 0
	for range 100000 {
		m := anyMsg(&d, all)
		want := canBe(m)
		if Right(m) != want {
			t.Fatalf("%v: right isn't %t", m, want)
		}
		b, e := Bytes(m)
		if !want && (len(b) > 0 || e != api.ErrMsg) || want && (!bytes.Equal(b, form(m)) || e != api.OK) {
			t.Fatalf("Bytes(%v): %v %d", m, b, e)
		}
		if want {
			right++
			if got, e := Read(b); !Same(got, m) || e != api.OK {
				t.Fatalf("Read of %v: %v %d", m, got, e)
			}
		}
	}
	if right < 20000 || right > 80000 {
		t.Error("too few were right, or wrong:", right)
	}
}

// changed answers bytes of which one is another one, or gone, or one too many.
func changed(d *dice, b []byte) []byte {
	b = bytes.Clone(b)
	at := d.next(len(b) + 1)
	switch d.next(4) {
	case 0:
		return slices.Insert(b, at, byte(d.next(256)))
	case 1:
		return slices.Delete(b, at, min(at+1, len(b)))
	case 2:
		if at < len(b) {
			b[at] ^= 1 << d.next(8)
		}
	default:
		if at < len(b) {
			b[at] = byte(d.next(8))
		}
	}
	return b
}

// TestReadAgainstModel: of bytes that are changed ahead of being marked, and behind it, just what is somebody's is read.
func TestReadAgainstModel(t *testing.T) {
	d := dice(2)
	all := append(rightOnes()[:60], rightOnes()[2000:2060]...)
	found, lost := 0, 0
	for range 200000 {
		m := all[d.next(len(all))]
		body := bodyForm(m)
		for range d.next(3) {
			body = changed(&d, body)
		}
		from := m.From
		if nums := loose(body); len(nums) > 1 && d.next(4) > 0 {
			from = int(nums[1]) - 1
		}
		if from < -1 || from > 300 {
			continue
		}
		b := under(from, body)
		if d.next(8) == 0 {
			b = changed(&d, b)
		}
		want, ok := wanted(b)
		got, e := Read(b)
		if !Same(got, want) || ok != (e == api.OK) || !ok && e != api.ErrMsg {
			t.Fatalf("Read(%v): %v %d, not %v", b, got, e, want)
		}
		if ok && !Same(got, m) {
			found++
		}
		if !ok {
			lost++
		}
	}
	if found < 5000 || lost < 50000 {
		t.Error("too little was found, or refused:", found, lost)
	}
}
