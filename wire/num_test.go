package wire

import (
	"bytes"
	"math"
	"testing"

	"neaptide/api"
)

// forms are numbers with their Nums: the least and the greatest of each count of groups among them.
var forms = []struct {
	n    uint64
	form []byte
}{
	{0, []byte{0}},
	{1, []byte{1}},
	{127, []byte{127}},
	{128, []byte{128, 1}},
	{129, []byte{129, 1}},
	{255, []byte{255, 1}},
	{256, []byte{128, 2}},
	{300, []byte{172, 2}},
	{1<<14 - 1, []byte{255, 127}},
	{1 << 14, []byte{128, 128, 1}},
	{1<<21 - 1, []byte{255, 255, 127}},
	{1 << 21, []byte{128, 128, 128, 1}},
	{1<<28 - 1, []byte{255, 255, 255, 127}},
	{1 << 28, []byte{128, 128, 128, 128, 1}},
	{1<<35 - 1, []byte{255, 255, 255, 255, 127}},
	{1 << 35, []byte{128, 128, 128, 128, 128, 1}},
	{1<<42 - 1, []byte{255, 255, 255, 255, 255, 127}},
	{1 << 42, []byte{128, 128, 128, 128, 128, 128, 1}},
	{1<<49 - 1, []byte{255, 255, 255, 255, 255, 255, 127}},
	{1 << 49, []byte{128, 128, 128, 128, 128, 128, 128, 1}},
	{1<<56 - 1, []byte{255, 255, 255, 255, 255, 255, 255, 127}},
	{1 << 56, []byte{128, 128, 128, 128, 128, 128, 128, 128, 1}},
	{1<<63 - 1, []byte{255, 255, 255, 255, 255, 255, 255, 255, 127}},
	{1 << 63, []byte{128, 128, 128, 128, 128, 128, 128, 128, 128, 1}},
	{math.MaxUint64, []byte{255, 255, 255, 255, 255, 255, 255, 255, 255, 1}},
	{0x0102030405060708, []byte{136, 142, 152, 168, 192, 224, 128, 129, 1}},
}

// noNums are bytes that begin with no Num.
var noNums = [][]byte{
	nil,
	{},
	{128},
	{255},
	{128, 128},
	{255, 255, 255, 255, 255, 255, 255, 255, 255},
	// More groups than needed.
	{128, 0},
	{129, 0},
	{255, 0, 7},
	{172, 130, 0},
	{128, 128, 128, 128, 128, 128, 128, 128, 0},
	{128, 128, 128, 128, 128, 128, 128, 128, 128, 0},
	{255, 255, 255, 255, 255, 255, 255, 255, 255, 0},
	// Above 2^64 - 1.
	{128, 128, 128, 128, 128, 128, 128, 128, 128, 2},
	{255, 255, 255, 255, 255, 255, 255, 255, 255, 2},
	{255, 255, 255, 255, 255, 255, 255, 255, 255, 3},
	{255, 255, 255, 255, 255, 255, 255, 255, 255, 127},
	{255, 255, 255, 255, 255, 255, 255, 255, 255, 128},
	{255, 255, 255, 255, 255, 255, 255, 255, 255, 129, 0},
	{128, 128, 128, 128, 128, 128, 128, 128, 128, 128, 1},
	{128, 128, 128, 128, 128, 128, 128, 128, 128, 129, 1},
	bytes.Repeat([]byte{255}, 5000),
}

func TestNumForms(t *testing.T) {
	for _, c := range forms {
		if b := Num(c.n); !bytes.Equal(b, c.form) {
			t.Errorf("Num(%d): %v, not %v", c.n, b, c.form)
		}
	}
}

func TestReadNumForms(t *testing.T) {
	for _, c := range forms {
		for _, behind := range [][]byte{nil, {0}, {128}, {5, 6, 7}} {
			in := append(bytes.Clone(c.form), behind...)
			n, rest, e := ReadNum(in)
			if n != c.n || !bytes.Equal(rest, behind) || e != api.OK {
				t.Errorf("ReadNum(%v): %d %v %d", in, n, rest, e)
			}
		}
		for short := range c.form {
			if n, rest, e := ReadNum(c.form[:short]); n != 0 || len(rest) != 0 || e != api.ErrWire {
				t.Errorf("ReadNum(%v): %d %v %d", c.form[:short], n, rest, e)
			}
		}
	}
}

func TestReadNumRefuses(t *testing.T) {
	for _, b := range noNums {
		if n, rest, e := ReadNum(b); n != 0 || len(rest) != 0 || e != api.ErrWire {
			t.Errorf("ReadNum(%v): %d %v %d", b, n, rest, e)
		}
	}
}

// Of all that is three bytes long, ReadNum takes just what begins with a Num.
func TestReadNumTakesOneForm(t *testing.T) {
	var begins [1 << 24]int32
	for n := range 1 << 21 {
		form := Num(uint64(n))
		spare := 8 * (3 - len(form))
		first := 0
		for _, c := range form {
			first = first<<8 | int(c)
		}
		for i := range 1 << spare {
			begins[first<<spare|i] = int32(n) + 1
		}
	}
	for i, want := range begins {
		b := []byte{byte(i >> 16), byte(i >> 8), byte(i)}
		n, rest, e := ReadNum(b)
		if want == 0 {
			if n != 0 || len(rest) != 0 || e != api.ErrWire {
				t.Fatalf("ReadNum(%v): %d %v %d", b, n, rest, e)
			}
			continue
		}
		if n != uint64(want-1) || e != api.OK || !bytes.Equal(append(Num(n), rest...), b) {
			t.Fatalf("ReadNum(%v): %d %v %d", b, n, rest, e)
		}
	}
}

func TestNumIsNewMemory(t *testing.T) {
	for _, c := range forms {
		a, b := Num(c.n), Num(c.n)
		scribble(a)
		if !bytes.Equal(b, c.form) || !bytes.Equal(Num(c.n), c.form) {
			t.Errorf("Num(%d) hangs on an answer before it", c.n)
		}
	}
}

func TestReadNumSharesNothing(t *testing.T) {
	in, spare := withSpare(172, 2, 5, 6)
	_, rest, _ := ReadNum(in)
	scribble(rest)
	if !bytes.Equal(spare, []byte{172, 2, 5, 6, 77, 77, 77, 77}) {
		t.Error("what was handed in is changed:", spare)
	}
	n, rest, e := ReadNum(in)
	scribble(in)
	if n != 300 || !bytes.Equal(rest, []byte{5, 6}) || e != api.OK {
		t.Error("what was handed in is kept:", n, rest, e)
	}
}

// withSpare answers b with room behind it that is filled with 77, and the whole of that memory.
func withSpare(b ...byte) (in, whole []byte) {
	whole = append(b, 77, 77, 77, 77)
	return whole[:len(b)], whole
}

// scribble writes over all of b's memory, spare room included.
func scribble(b []byte) {
	b = b[:cap(b)]
	for i := range b {
		b[i] = 99
	}
}
