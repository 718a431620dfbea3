package tag

import (
	"bytes"
	"hash/fnv"
	"math"
	"math/big"
	"slices"
	"testing"
)

func TestKey(t *testing.T) {
	for _, c := range []struct {
		node int
		key  uint64
	}{
		{0, 0x9E3779B97F4A7C15}, // the chapter's example
		{1, 0x3C6EF372FE94F82A},
		{2, 0xDAA66D2C7DDF743F},
		{3, 0x78DDE6E5FD29F054},
		{6, 0x538454127B096493},
		{7, 0xF1BBCDCBFA53E0A8},
		{-1, 0},
		{-2, 0x61C8864680B583EB},
		{-3, 0xC3910C8D016B07D6},
		{1 << 31, 0x5DDCB7C3FF4A7C15},
		{1 << 32, 0x1D81F5CE7F4A7C15},
		{1 << 62, 0xDE3779B97F4A7C15},
		{math.MaxInt - 1, 0xE1C8864680B583EB},
		{math.MaxInt, 0x8000000000000000},
		{math.MinInt, 0x1E3779B97F4A7C15},
	} {
		if key := Key(c.node); key != c.key {
			t.Errorf("Key(%d): %#x, not %#x", c.node, key, c.key)
		}
	}
}

// all answers each byte's value once.
func all() []byte {
	b := make([]byte, 256)
	for i := range b {
		b[i] = byte(i)
	}
	return b
}

var marks = []struct {
	key  uint64
	b    []byte
	mark uint64
}{
	{0, nil, 0xCBF29CE2DBB6C401},
	{0, []byte{0}, 0xAF63BD49FD1C5DBB},
	{0, []byte{0, 0}, 0x08328807F57F2FD0},
	{0, []byte("a"), 0xAF63DC49FD1F0EE8},
	{0, []byte{0x7F}, 0xAF63F249FD1D838A},
	{0, []byte{0x80}, 0xAF643D49FD237B3B},
	{0, []byte{0xFF}, 0xAF647249FD21790A},
	{0, []byte("ab"), 0x089C4407F1A7B857},
	{0, []byte("ba"), 0x08A63307F07C4831},
	{0, []byte("foobar"), 0x85944175DB9B6C67},
	{0, all(), 0x4242DC505BD5D4B7},
	{0, bytes.Repeat([]byte{0xFF}, 4096), 0xC0B0143485E752B1},
	{1, nil, 0xCBF29CE2DBB6C400},
	{3, []byte("abc"), 0x004315191159CD3A},
	{4, []byte("abc"), 0xC2C6F61EE6078418},
	{0x9E3779B97F4A7C15, nil, 0x55C5E55F554775DF},
	{0x9E3779B97F4A7C15, []byte("foobar"), 0xA4ABC7D471AD6327},
	{0x538454127B096493, all(), 0xD08E2B1CF1CA8765},
	// The key that takes the start away: nothing is left to be multiplied.
	{0xCBF29CE484222325, nil, 0},
	{0xCBF29CE484222325, []byte{0}, 0},
	{0xCBF29CE484222325, []byte("a"), 0x000061000003ACD3},
	{1 << 63, []byte("abd"), 0x671FA71A3DBC6702},
	{math.MaxUint64, nil, 0x340D631ADBB6C401},
	{math.MaxUint64, all(), 0x50D8453463FFF36D},
}

func TestOf(t *testing.T) {
	for _, c := range marks {
		if mark := Of(c.key, c.b); mark != c.mark {
			t.Errorf("Of(%#x, %v): %#x, not %#x", c.key, c.b, mark, c.mark)
		}
	}
}

func TestOfNothing(t *testing.T) {
	for _, key := range []uint64{0, 1, Key(0), Key(6), math.MaxUint64} {
		want := Of(key, nil)
		for _, parts := range [][][]byte{nil, {}, {{}}, {nil, nil}, {nil, {}, nil}, make([][]byte, 1000)} {
			if mark := Of(key, parts...); mark != want {
				t.Errorf("Of(%#x) of %d empty parts: %#x, not %#x", key, len(parts), mark, want)
			}
		}
	}
}

// pieces answers b, cut behind each so many bytes, with an empty part in between.
func pieces(b []byte, size int) [][]byte {
	var out [][]byte
	for piece := range slices.Chunk(b, size) {
		out = append(out, piece, nil)
	}
	return out
}

func TestOfParts(t *testing.T) {
	for _, c := range marks {
		for _, size := range []int{1, 2, 3, 7, 64, 5000} {
			if mark := Of(c.key, pieces(c.b, size)...); mark != c.mark {
				t.Errorf("Of(%#x, %v) in parts of %d: %#x, not %#x", c.key, c.b, size, mark, c.mark)
			}
		}
	}
	if Of(3, []byte("ab"), []byte("c")) == Of(3, []byte("c"), []byte("ab")) {
		t.Error("the parts' order isn't told")
	}
}

// plainMark works the mark out with numbers of any size, cut down to 64 bits behind each step.
func plainMark(key uint64, b []byte) uint64 {
	room := new(big.Int).Lsh(big.NewInt(1), 64)
	factor := big.NewInt(1099511628211)
	mark := new(big.Int).SetUint64(key)
	mark.Xor(mark, new(big.Int).SetUint64(14695981039346656037))
	for _, c := range b {
		mark.Xor(mark, big.NewInt(int64(c)))
		mark.Mul(mark, factor)
		mark.Mod(mark, room)
	}
	mark.Xor(mark, new(big.Int).Rsh(mark, 29))
	return mark.Uint64()
}

func TestOfPlainly(t *testing.T) {
	for key := -3; key < 8; key++ {
		for size := range 300 {
			b := make([]byte, size)
			for i := range b {
				b[i] = byte(i*i + key)
			}
			if mark, want := Of(Key(key), b), plainMark(Key(key), b); mark != want {
				t.Errorf("Of(Key(%d)) of %d bytes: %#x, not %#x", key, size, mark, want)
			}
			h := fnv.New64a()
			h.Write(b)
			if mark := Of(0, b); mark != h.Sum64()^h.Sum64()>>29 {
				t.Errorf("Of(0) of %d bytes: %#x", size, mark)
			}
		}
	}
}

func TestOfChangesNothing(t *testing.T) {
	room := []byte("abcdef")
	parts := make([][]byte, 2, 4)
	parts[0], parts[1] = room[:2:4], room[4:5]
	first := Of(5, parts...)
	if second := Of(5, parts...); second != first {
		t.Errorf("%#x, then %#x", first, second)
	}
	if string(room) != "abcdef" || string(parts[0]) != "ab" || string(parts[1]) != "e" {
		t.Errorf("changed: %q %q", room, parts)
	}
	for _, part := range parts[2:4] {
		if part != nil {
			t.Errorf("spare room changed: %q", part)
		}
	}
	room[0] = 'x'
	if Of(5, parts...) == first || Of(5, []byte("abe")) != first {
		t.Error("bytes were kept")
	}
}

func TestRight(t *testing.T) {
	for _, c := range marks {
		if !Right(c.key, c.mark, c.b) {
			t.Errorf("not right: %#x %#x %v", c.key, c.mark, c.b)
		}
		for bit := range 64 {
			if Right(c.key, c.mark^1<<bit, c.b) {
				t.Errorf("right with the mark's bit %d turned: %#x %v", bit, c.key, c.b)
			}
			if Right(c.key^1<<bit, c.mark, c.b) {
				t.Errorf("right with the key's bit %d turned: %#x %v", bit, c.key, c.b)
			}
		}
		for i := range min(len(c.b), 300) {
			b := bytes.Clone(c.b)
			b[i] ^= 1
			if Right(c.key, c.mark, b) {
				t.Errorf("right with byte %d turned: %#x %v", i, c.key, c.b)
			}
		}
	}
}

func TestRightRefuses(t *testing.T) {
	mark := Of(Key(3), []byte("abc"))
	if !Right(Key(3), mark, []byte("abc")) {
		t.Error("not right")
	}
	for _, c := range []struct {
		key, mark uint64
		b         []byte
	}{
		{Key(2), mark, []byte("abc")},
		{Key(-1), mark, []byte("abc")},
		{3, mark, []byte("abc")},
		{mark, Key(3), []byte("abc")},
		{Key(3), 0, []byte("abc")},
		{Key(3), math.MaxUint64, []byte("abc")},
		{Key(3), mark, nil},
		{Key(3), mark, []byte("ab")},
		{Key(3), mark, []byte("abd")},
		{Key(3), mark, []byte("acb")},
		{Key(3), mark, []byte("abc\x00")},
		{Key(3), 0, nil},
	} {
		if Right(c.key, c.mark, c.b) {
			t.Errorf("right: %#x %#x %q", c.key, c.mark, c.b)
		}
	}
	if !Right(Key(3), Of(Key(3)), nil) || !Right(Key(3), Of(Key(3)), []byte{}) {
		t.Error("not right of nothing")
	}
	room := []byte("abcd")
	Right(Key(3), mark, room[:3])
	if string(room) != "abcd" {
		t.Errorf("changed: %q", room)
	}
}
