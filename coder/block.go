package coder

import (
	"strconv"

	"commits/api"
	"commits/program"
)

// block is what the coder knows of the block that it is in. A block keeps to itself what it puts and gives out up to its end: if it is trapped nothing is seen of it.
type block struct {
	puts  [api.MaxCells]bool // the shared cells that it may put
	gives bool               // whether it may give out
}

func (c *coder) atomic(s *program.Atomic) {
	c.block = c.newBlock(s)
	c.begin()
	c.stmts(s.Stmts)
	c.commit()
	c.block = nil
}

func (c *coder) newBlock(s *program.Atomic) *block {
	b := &block{gives: program.Outs(s.Stmts) > 0}
	for inner := range program.All(s.Stmts) {
		if put, ok := inner.(program.Put); ok {
			v := c.shared[put.Of]
			for i := range v.Cells {
				b.puts[v.First+i] = true
			}
		}
	}
	return b
}

func (c *coder) begin() {
	for cell, may := range c.block.puts {
		if may {
			c.add("store", "0", c.own(putAt+cell), "0")
		}
	}
	if c.block.gives {
		c.add("mov", outs, "0")
	}
}

// commit lets be seen what the block has put, and then what it gives out.
func (c *coder) commit() {
	for cell, may := range c.block.puts {
		if may {
			c.storePut(cell)
		}
	}
	if c.block.gives {
		c.giveOut()
	}
}

func (c *coder) storePut(cell int) {
	c.add("load", scratch, "0", c.own(putAt+cell))
	behind := c.leap("jz", scratch)
	c.add("load", scratch, "0", c.own(copiesAt+cell))
	c.add("store", "0", shared(cell), scratch)
	behind()
}

func (c *coder) giveOut() {
	c.add("mov", scratch, "0")
	again := c.place()
	c.add("lt", second, scratch, outs)
	behind := c.leap("jz", second)
	c.add("load", second, scratch, c.own(outsAt))
	c.add("out", second)
	c.add("add", scratch, scratch, "1")
	c.back(again)
	behind()
}

// get reads the block's own put, if there is one.
func (c *coder) get(s program.Get) {
	to, at, first := c.local(s.To), c.value(s.At), c.shared[s.Of].First
	c.checkCell(s.Cell)
	if !c.block.puts[first] {
		c.add("load", to, at, shared(first))
		return
	}
	c.add("load", scratch, at, c.own(putAt+first))
	notPut := c.leap("jz", scratch)
	c.add("load", to, at, c.own(copiesAt+first))
	behind := c.leap("jmp")
	notPut()
	c.add("load", to, at, shared(first))
	behind()
}

func (c *coder) put(s program.Put) {
	at, first := c.value(s.At), c.shared[s.Of].First
	c.checkCell(s.Cell)
	c.add("store", at, c.own(copiesAt+first), c.value(s.What))
	c.add("store", at, c.own(putAt+first), "1")
}

func (c *coder) out(s program.Out) {
	if c.block == nil {
		c.add("out", c.value(s.What))
		return
	}
	c.add("store", outs, c.own(outsAt), c.value(s.What))
	c.add("add", outs, outs, "1")
}

// checkCell traps the thread if the variable has no such cell.
func (c *coder) checkCell(s program.Cell) {
	cells := int64(c.shared[s.Of].Cells)
	if s.At.Name == "" && s.At.Number >= 0 && s.At.Number < cells {
		return
	}
	at := c.value(s.At)
	c.add("lt", scratch, "-1", at)
	c.trapIf0()
	c.add("lt", scratch, at, strconv.FormatInt(cells, 10))
	c.trapIf0()
}

// trapIf0 leaps to the trap, which is not laid yet.
func (c *coder) trapIf0() { c.traps = append(c.traps, c.leap("jz", scratch)) }
