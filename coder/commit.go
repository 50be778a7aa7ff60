package coder

// commit lets be seen what the block has put. It locks that; moves the clock on, by which the block has its place in the order of all; looks again at what the block got; stores; and unlocks with the clock's new time for a version. Ahead of the clock it has stored nothing that others see but locks.
func (c *coder) commit() {
	c.block.puts.each(c.lock)
	c.add("xadd", second, "0", clock(), "1")
	c.add("add", second, second, "1")
	c.block.gets.each(c.lookAgain)
	c.block.puts.each(c.storePut)
	// Without the fence the locks might stay though the thread is far beyond the block.
	c.add("fence")
	behind := c.leap("jmp")
	c.undo()
	behind()
}

// lock locks a cell if it was put, and if the block may see what it has.
func (c *coder) lock(cell int) {
	c.add("load", scratch, "0", c.own(putAt+cell))
	behind := c.leap("jz", scratch)
	c.add("load", second, "0", version(cell))
	c.add("lt", scratch, second, late)
	c.undoIf0()
	c.add("store", "0", c.own(oldAt+cell), second)
	c.add("cas", scratch, "0", version(cell), second, c.locked())
	c.undoIf0()
	behind()
}

func (c *coder) lookAgain(cell int) {
	c.add("load", scratch, "0", c.own(gotAt+cell))
	behind := c.leap("jz", scratch)
	c.isEarly("0", cell)
	c.undoIf0()
	behind()
}

// storePut unlocks behind the store: stores come into the memory in their order.
func (c *coder) storePut(cell int) {
	c.add("load", scratch, "0", c.own(putAt+cell))
	behind := c.leap("jz", scratch)
	c.add("load", scratch, "0", c.own(copiesAt+cell))
	c.add("store", "0", shared(cell), scratch)
	c.add("store", "0", version(cell), second)
	behind()
}

// undoIf0 leaps to where the locks are undone, which is not laid yet.
func (c *coder) undoIf0() { c.block.undo = append(c.block.undo, c.leap("jz", scratch)) }

func (c *coder) undo() {
	for _, here := range c.block.undo {
		here()
	}
	c.block.puts.each(c.unlock)
	c.back(c.block.again)
}

// unlock gives a cell its old version back, if the thread has locked it.
func (c *coder) unlock(cell int) {
	c.add("load", scratch, "0", version(cell))
	c.add("eq", scratch, scratch, c.locked())
	behind := c.leap("jz", scratch)
	c.add("load", scratch, "0", c.own(oldAt+cell))
	c.add("store", "0", version(cell), scratch)
	behind()
}

func (c *coder) giveOut() {
	c.add("mov", scratch, "0")
	again := c.place()
	c.add("lt", second, scratch, outs)
	behind := c.leap("jz", second)
	c.add("load", second, scratch, c.own(outsAt))
	c.add("out", second)
	c.add("add", scratch, scratch, "1")
	c.back(again)
	behind()
}
