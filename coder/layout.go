package coder

import (
	"strconv"

	"commits/api"
)

// Where things lie in the memory: the shared cells, and behind them a part for each thread that no other one touches.
const (
	sharedAt = 0
	ownAt    = sharedAt + api.MaxCells
)

// Where things lie in a thread's own part.
const (
	copiesAt = 0                       // what the block has put, a cell for each shared one
	putAt    = copiesAt + api.MaxCells // whether it has put there: 1 or 0
	outsAt   = putAt + api.MaxCells    // what the block is to give out
	roundsAt = outsAt + api.MaxOuts    // how often loops are still to be done, a cell for each within another
	ownCells = roundsAt + api.MaxDepth
)

// The registers. Those ahead of these are the local variables.
const (
	scratch = "r4"
	second  = "r5"
	outs    = "r7" // how much the block is to give out
)

func shared(cell int) string { return strconv.Itoa(sharedAt + cell) }

// own is the address of a cell in the thread's own part.
func (c *coder) own(cell int) string { return strconv.Itoa(ownAt + c.thread*ownCells + cell) }
