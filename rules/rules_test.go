// Package rules tests what the document's own sections Limits and Errors say, as package api is to hold nothing beside what is given.
package rules

import (
	"testing"

	"neaptide/api"
)

func TestLimits(t *testing.T) {
	for _, c := range []struct {
		name      string
		got, want int
	}{
		{"MaxText", api.MaxText, 4096},
		{"MaxNums", api.MaxNums, 64},
		{"MaxNodes", api.MaxNodes, 7},
		{"MaxWeight", api.MaxWeight, 1000000},
		{"MaxDisk", api.MaxDisk, 65536},
		{"MaxFee", api.MaxFee, 1000},
		{"MaxTxs", api.MaxTxs, 3},
		{"MaxSlot", api.MaxSlot, 4095},
		{"MaxVariant", api.MaxVariant, 255},
		{"MaxTx", api.MaxTx, 1000000},
		{"MaxBlocks", api.MaxBlocks, 400},
		{"MaxOrphans", api.MaxOrphans, 16},
		{"MaxPool", api.MaxPool, 16},
		{"MaxSlots", api.MaxSlots, 200},
		{"MaxDeep", api.MaxDeep, 10},
		{"MaxIndex", api.MaxIndex, 1000},
		{"MaxView", api.MaxView, 1000},
		{"MaxPatience", api.MaxPatience, 1000},
		{"MaxWanted", api.MaxWanted, 32},
		{"MaxAsks", api.MaxAsks, 8},
		{"MaxBag", api.MaxBag, 4000},
		{"MaxSteps", api.MaxSteps, 2000},
		{"MaxSay", api.MaxSay, 600},
	} {
		if c.got != c.want {
			t.Errorf("%s: %d, not %d", c.name, c.got, c.want)
		}
	}
}

func TestErrors(t *testing.T) {
	for _, c := range []struct {
		name      string
		got, want api.Errno
	}{
		{"OK", api.OK, 0},
		{"ErrWire", api.ErrWire, 11},
		{"ErrStake", api.ErrStake, 31},
		{"ErrFull", api.ErrFull, 41},
		{"ErrRecord", api.ErrRecord, 51},
		{"ErrTx", api.ErrTx, 61},
		{"ErrBlock", api.ErrBlock, 71},
		{"ErrPool", api.ErrPool, 91},
		{"ErrLot", api.ErrLot, 101},
		{"ErrChain", api.ErrChain, 111},
		{"ErrMsg", api.ErrMsg, 121},
		{"ErrDown", api.ErrDown, 181},
		{"ErrStep", api.ErrStep, 211},
		{"ErrScript", api.ErrScript, 231},
	} {
		if c.got != c.want {
			t.Errorf("%s: %d, not %d", c.name, c.got, c.want)
		}
	}
}
