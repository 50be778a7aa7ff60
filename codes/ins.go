// Package codes: the instructions of a code, and how its text is read.
package codes

import (
	"commits/api"
	"commits/ops"
)

// Ins is an instruction: it does itself on a thread.
type Ins interface {
	Do(t Thread)
}

// Thread is what an instruction needs of the thread that it is done on. Addresses are those of cells that are there.
type Thread interface {
	Register(r int) int64
	SetRegister(r int, v int64)
	Load(at int) int64       // as the thread sees the cell: what waits counts
	Store(at int, v int64)   // lets the store wait
	SetCell(at int, v int64) // stores at once
	Drain()                  // all that waits goes into the memory
	Give(v int64)            // gives out
	Leap(place int)          // goes on there
	End(state int)           // runs no more
}

// value is what an instruction reads: a register or a number.
type value interface {
	of(t Thread) int64
}

type (
	register int
	number   int64
)

func (r register) of(t Thread) int64 { return t.Register(int(r)) }

func (n number) of(t Thread) int64 { return int64(n) }

func (r register) set(t Thread, v int64) { t.SetRegister(int(r), v) }

// cell is how an instruction says which cell it speaks of.
type cell struct {
	base   value
	offset int64
}

// on is the cell's address; if no cell has it the thread is trapped.
func (c cell) on(t Thread) (int, bool) {
	at := c.base.of(t) + c.offset
	if at < 0 || at >= api.Cells {
		t.End(api.TrapAddress)
		return 0, false
	}
	return int(at), true
}

type (
	move struct {
		to   register
		from value
	}
	operate struct {
		op   ops.Op
		to   register
		a, b value
	}
	load struct {
		to   register
		from cell
	}
	store struct {
		to   cell
		what value
	}
	compareAndSwap struct {
		to       register
		in       cell
		old, new value
	}
	fetchAndAdd struct {
		to   register
		in   cell
		more value
	}
	fence  struct{}
	give   struct{ what value }
	leap   struct{ place int }
	leapIf struct {
		zero  value
		place int
	}
	end struct{ state int }
)

func (i move) Do(t Thread) { i.to.set(t, i.from.of(t)) }

func (i operate) Do(t Thread) {
	v, ok := i.op.Of(i.a.of(t), i.b.of(t))
	if !ok {
		t.End(api.TrapZero)
		return
	}
	i.to.set(t, v)
}

func (i load) Do(t Thread) {
	if at, ok := i.from.on(t); ok {
		i.to.set(t, t.Load(at))
	}
}

func (i store) Do(t Thread) {
	if at, ok := i.to.on(t); ok {
		t.Store(at, i.what.of(t))
	}
}

// Do drains even if the address is wrong; behind that nothing waits, so what the thread sees is what the memory has.
func (i compareAndSwap) Do(t Thread) {
	t.Drain()
	at, ok := i.in.on(t)
	if !ok {
		return
	}
	if t.Load(at) != i.old.of(t) {
		i.to.set(t, 0)
		return
	}
	t.SetCell(at, i.new.of(t))
	i.to.set(t, 1)
}

// Do sets the register last, as the other words may read it.
func (i fetchAndAdd) Do(t Thread) {
	t.Drain()
	at, ok := i.in.on(t)
	if !ok {
		return
	}
	had := t.Load(at)
	t.SetCell(at, had+i.more.of(t))
	i.to.set(t, had)
}

func (i fence) Do(t Thread) { t.Drain() }

func (i give) Do(t Thread) { t.Give(i.what.of(t)) }

func (i leap) Do(t Thread) { t.Leap(i.place) }

func (i leapIf) Do(t Thread) {
	if i.zero.of(t) == 0 {
		t.Leap(i.place)
	}
}

func (i end) Do(t Thread) { t.End(i.state) }
