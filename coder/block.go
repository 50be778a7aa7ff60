package coder

import (
	"strconv"

	"commits/api"
	"commits/program"
)

// cells tells of each shared cell whether a block may do something to it.
type cells [api.MaxCells]bool

// block is what the coder knows of the block that it is in. A block keeps to itself what it puts and gives out up to its end: if it is trapped, or begins anew, nothing is seen of it.
type block struct {
	gets, puts cells
	changes    [api.MaxLocals]bool // the local variables that it may change
	gives      bool                // whether it may give out
	again      int                 // the place where it begins anew
	undo       []func()            // each lets a leap lead to where the block's locks are undone
}

func (c *coder) atomic(s *program.Atomic) {
	c.block = c.newBlock(s)
	c.begin()
	c.stmts(s.Stmts)
	if c.block.puts != (cells{}) {
		c.commit()
	}
	if c.block.gives {
		c.giveOut()
	}
	c.block = nil
}

func (c *coder) newBlock(s *program.Atomic) *block {
	b := &block{}
	for inner := range program.All(s.Stmts) {
		switch inner := inner.(type) {
		case program.Set:
			b.changes[c.locals[inner.To]] = true
		case program.Operate:
			b.changes[c.locals[inner.To]] = true
		case program.Get:
			b.changes[c.locals[inner.To]] = true
			b.gets.mark(c.shared[inner.Of])
		case program.Put:
			b.puts.mark(c.shared[inner.Of])
		case program.Out:
			b.gives = true
		}
	}
	return b
}

// mark takes all cells of a variable: which one is spoken of is not known yet.
func (s *cells) mark(v program.Variable) {
	for i := range v.Cells {
		s[v.First+i] = true
	}
}

func (s cells) each(do func(cell int)) {
	for cell, may := range s {
		if may {
			do(cell)
		}
	}
}

func (b *block) eachChanged(do func(local int)) {
	for local, may := range b.changes {
		if may {
			do(local)
		}
	}
}

// begin saves the local variables, so that the block can begin anew, and reads the clock: the block is to see what has been put up to now, and nothing later.
func (c *coder) begin() {
	c.block.eachChanged(func(local int) { c.add("store", "0", c.own(savedAt+local), register(local)) })
	c.block.again = c.place()
	c.block.eachChanged(func(local int) { c.add("load", register(local), "0", c.own(savedAt+local)) })
	c.add("load", late, "0", clock())
	c.add("add", late, late, "1")
	c.block.puts.each(func(cell int) { c.add("store", "0", c.own(putAt+cell), "0") })
	c.block.gets.each(func(cell int) { c.add("store", "0", c.own(gotAt+cell), "0") })
	c.add("mov", outs, "0")
}

// get reads the block's own put, if there is one.
func (c *coder) get(s program.Get) {
	to, at, first := c.local(s.To), c.value(s.At), c.shared[s.Of].First
	c.checkCell(s.Cell)
	if !c.block.puts[first] {
		c.read(to, at, first)
		return
	}
	c.add("load", scratch, at, c.own(putAt+first))
	notPut := c.leap("jz", scratch)
	c.add("load", to, at, c.own(copiesAt+first))
	behind := c.leap("jmp")
	notPut()
	c.read(to, at, first)
	behind()
}

// read looks at the version on both sides of the cell: ahead of it, as one who stores what is early enough may not be through; behind it, as one who came later may have stored already.
func (c *coder) read(to, at string, first int) {
	again := strconv.Itoa(c.block.again)
	c.isEarly(at, first)
	c.add("jz", scratch, again)
	c.add("load", second, at, shared(first))
	c.isEarly(at, first)
	c.add("jz", scratch, again)
	c.add("store", at, c.own(gotAt+first), "1")
	c.add("mov", to, second)
}

// isEarly makes 1 if the block may see what the cell has, 0 if that is too late or locked.
func (c *coder) isEarly(at string, first int) {
	c.add("load", scratch, at, version(first))
	c.add("lt", scratch, scratch, late)
}

// put has what the block got there forgotten: what it puts it locks, and the lock looks at the version too.
func (c *coder) put(s program.Put) {
	at, first := c.value(s.At), c.shared[s.Of].First
	c.checkCell(s.Cell)
	c.add("store", at, c.own(copiesAt+first), c.value(s.What))
	c.add("store", at, c.own(putAt+first), "1")
	c.add("store", at, c.own(gotAt+first), "0")
}

func (c *coder) out(s program.Out) {
	if c.block == nil {
		c.add("out", c.value(s.What))
		return
	}
	c.add("store", outs, c.own(outsAt), c.value(s.What))
	c.add("add", outs, outs, "1")
}

// checkCell traps the thread if the variable has no such cell. What a block has read belongs together, so that it is trapped only if it would be so done at one go.
func (c *coder) checkCell(s program.Cell) {
	cells := int64(c.shared[s.Of].Cells)
	if s.At.Name == "" && s.At.Number >= 0 && s.At.Number < cells {
		return
	}
	at := c.value(s.At)
	c.add("lt", scratch, "-1", at)
	c.trapIf0()
	c.add("lt", scratch, at, strconv.FormatInt(cells, 10))
	c.trapIf0()
}

// trapIf0 leaps to the trap, which is not laid yet.
func (c *coder) trapIf0() { c.traps = append(c.traps, c.leap("jz", scratch)) }
