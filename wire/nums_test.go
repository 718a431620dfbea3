package wire

import (
	"bytes"
	"math"
	"slices"
	"testing"

	"neaptide/api"
)

// manyNums answers so many numbers, and their Nums.
func manyNums(many int) ([]int, []byte) {
	var nums []int
	var form []byte
	for i := range many {
		nums = append(nums, i-1)
		form = append(form, byte(i))
	}
	return nums, form
}

func TestNumsForms(t *testing.T) {
	nums64, form64 := manyNums(64)
	for _, c := range []struct {
		nums []int
		form []byte
	}{
		{nil, nil},
		{[]int{}, nil},
		{[]int{-1}, []byte{0}},
		{[]int{0}, []byte{1}},
		{[]int{126}, []byte{127}},
		{[]int{127}, []byte{128, 1}},
		{[]int{-1, 0, 200}, []byte{0, 1, 201, 1}},
		{[]int{299, 299, -1}, []byte{172, 2, 172, 2, 0}},
		{[]int{1 << 62}, []byte{129, 128, 128, 128, 128, 128, 128, 128, 64}},
		{[]int{math.MaxInt - 1}, []byte{255, 255, 255, 255, 255, 255, 255, 255, 127}},
		{[]int{math.MaxInt}, []byte{128, 128, 128, 128, 128, 128, 128, 128, 128, 1}},
		{nums64, form64},
	} {
		if b, e := Nums(c.nums...); !bytes.Equal(b, c.form) || e != api.OK {
			t.Errorf("Nums(%v): %v %d", c.nums, b, e)
		}
	}
}

func TestNumsRefuses(t *testing.T) {
	nums65, _ := manyNums(65)
	for _, nums := range [][]int{
		{-2}, {-3}, {-129}, {math.MinInt}, {math.MinInt + 1}, {5, -2}, {-2, 5}, {1, 2, math.MinInt, 4},
		nums65, make([]int, 1000), append(slices.Clone(nums65), -2),
	} {
		if b, e := Nums(nums...); len(b) != 0 || e != api.ErrWire {
			t.Errorf("Nums(%v): %v %d", nums, b, e)
		}
	}
}

func TestReadNumsForms(t *testing.T) {
	nums64, form64 := manyNums(64)
	for _, c := range []struct {
		form []byte
		nums []int
	}{
		{nil, nil},
		{[]byte{0}, []int{-1}},
		{[]byte{1}, []int{0}},
		{[]byte{0, 1, 201, 1}, []int{-1, 0, 200}},
		{[]byte{172, 2, 172, 2, 0}, []int{299, 299, -1}},
		{[]byte{128, 128, 128, 128, 128, 128, 128, 128, 64}, []int{1<<62 - 1}},
		{[]byte{129, 128, 128, 128, 128, 128, 128, 128, 64, 3}, []int{1 << 62, 2}},
		{form64, nums64},
	} {
		for _, behind := range [][]byte{nil, {9}, {128, 0}} {
			in := append(bytes.Clone(c.form), behind...)
			nums, rest, e := ReadNums(in, len(c.nums))
			if !slices.Equal(nums, c.nums) || !bytes.Equal(rest, behind) || e != api.OK {
				t.Errorf("ReadNums(%v, %d): %v %v %d", in, len(c.nums), nums, rest, e)
			}
		}
	}
}

func TestReadNumsRefuses(t *testing.T) {
	zeros := make([]byte, 100)
	above := []byte{130, 128, 128, 128, 128, 128, 128, 128, 64}
	for _, c := range []struct {
		b    []byte
		many int
	}{
		{zeros, -1}, {zeros, math.MinInt}, {nil, -1}, {zeros, 65}, {zeros, 100}, {zeros, math.MaxInt},
		{nil, 1}, {[]byte{}, 64}, {[]byte{0, 1, 2}, 4}, {zeros[:63], 64},
		{above, 1}, {append([]byte{3}, above...), 2}, {append(bytes.Clone(above), 3), 2},
		{Num(1 << 63), 1}, {Num(math.MaxUint64), 1},
	} {
		if nums, rest, e := ReadNums(c.b, c.many); len(nums) != 0 || len(rest) != 0 || e != api.ErrWire {
			t.Errorf("ReadNums(%v, %d): %v %v %d", c.b, c.many, nums, rest, e)
		}
	}
	for _, b := range noNums {
		for _, ahead := range [][]byte{nil, {4}, {172, 2}} {
			in := append(bytes.Clone(ahead), b...)
			many := min(len(ahead), 1) + 1
			if nums, rest, e := ReadNums(in, many); len(nums) != 0 || len(rest) != 0 || e != api.ErrWire {
				t.Errorf("ReadNums(%v, %d): %v %v %d", in, many, nums, rest, e)
			}
		}
	}
}

// What stands behind the numbers that are asked for doesn't matter, be it a Num or not.
func TestReadNumsStops(t *testing.T) {
	for _, b := range noNums {
		if nums, rest, e := ReadNums(b, 0); len(nums) != 0 || !bytes.Equal(rest, b) || e != api.OK {
			t.Errorf("ReadNums(%v, 0): %v %v %d", b, nums, rest, e)
		}
	}
}

func TestNumsSharesNothing(t *testing.T) {
	whole := []int{7, 8, 9}
	b, _ := Nums(whole[:2]...)
	scribble(b)
	if again, e := Nums(whole[:2]...); !bytes.Equal(again, []byte{8, 9}) || e != api.OK {
		t.Error("an answer hangs on the one before it:", again, e)
	}
	if !slices.Equal(whole, []int{7, 8, 9}) {
		t.Error("what was handed in is changed:", whole)
	}
}

func TestReadNumsSharesNothing(t *testing.T) {
	in, spare := withSpare(1, 172, 2, 5, 6)
	nums, rest, _ := ReadNums(in, 2)
	scribble(rest)
	nums[0] = 99
	if !bytes.Equal(spare, []byte{1, 172, 2, 5, 6, 77, 77, 77, 77}) {
		t.Error("what was handed in is changed:", spare)
	}
	nums, rest, e := ReadNums(in, 2)
	_, all, _ := ReadNums(in, 0)
	scribble(in)
	if !slices.Equal(nums, []int{0, 299}) || !bytes.Equal(rest, []byte{5, 6}) || e != api.OK {
		t.Error("what was handed in is kept:", nums, rest, e)
	}
	if !bytes.Equal(all, []byte{1, 172, 2, 5, 6}) {
		t.Error("what was handed in is kept:", all)
	}
}
