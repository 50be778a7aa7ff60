package coder

import (
	"math"
	"strconv"

	"commits/api"
)

// Where things lie in the memory: what all threads share, and behind it a part for each thread that no other one touches.
const (
	sharedAt   = 0
	versionsAt = sharedAt + api.MaxCells   // when each shared cell was put last, by the clock
	clockAt    = versionsAt + api.MaxCells // how often a block was about to store what it had put
	ownAt      = clockAt + 1
)

// Where things lie in a thread's own part.
const (
	copiesAt = 0                       // what the block has put, a cell for each shared one
	putAt    = copiesAt + api.MaxCells // whether it has put there: 1 or 0
	gotAt    = putAt + api.MaxCells    // whether what it does hangs on what another one put there: 1 or 0
	oldAt    = gotAt + api.MaxCells    // the versions of what it has locked
	outsAt   = oldAt + api.MaxCells    // what the block is to give out
	savedAt  = outsAt + api.MaxOuts    // the local variables as they were ahead of the block
	roundsAt = savedAt + api.MaxLocals // how often loops are still to be done, a cell for each within another
	ownCells = roundsAt + api.MaxDepth
)

// The registers. Those ahead of these are the local variables.
const (
	scratch = "r4"
	second  = "r5"
	late    = "r6" // the first version that is too late for the block to see
	outs    = "r7" // how much the block is to give out
)

func register(local int) string { return "r" + strconv.Itoa(local) }

func shared(cell int) string { return strconv.Itoa(sharedAt + cell) }

func version(cell int) string { return strconv.Itoa(versionsAt + cell) }

func clock() string { return strconv.Itoa(clockAt) }

// own is the address of a cell in the thread's own part.
func (c *coder) own(cell int) string { return strconv.Itoa(ownAt + c.thread*ownCells + cell) }

// locked is what a cell has for a version while the thread has locked it: later than any, so that who looks for a late version finds a lock too.
func (c *coder) locked() string { return strconv.FormatInt(math.MaxInt64-int64(c.thread), 10) }
