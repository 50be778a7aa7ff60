// Package machine: the memory of a machine and its threads, whose stores wait.
package machine

import (
	"commits/api"
	"commits/codes"
	"commits/ring"
)

// Memory is what all threads of a machine share.
type Memory [api.Cells]int64

// Peek tells what a cell has; 0, if there is none.
func (m *Memory) Peek(at int) int64 {
	if at < 0 || at >= len(m) {
		return 0
	}
	return m[at]
}

// waiting is a store that is not in the memory yet.
type waiting struct {
	at   int
	what int64
}

// Thread runs the instructions of one thread.
type Thread struct {
	memory    *Memory
	ins       []codes.Ins
	registers [api.Regs]int64
	place     int
	buffer    ring.Ring[waiting]
	out       []int64
	state     int
}

// NewThread is a thread that has done nothing yet.
func NewThread(ins []codes.Ins, memory *Memory) *Thread {
	return &Thread{memory: memory, ins: ins, state: api.Runs}
}

// Step does the next instruction (P4). The place moves on ahead of that, as a leap is to have the last word.
func (t *Thread) Step() {
	if t.state != api.Runs {
		return
	}
	if t.place >= len(t.ins) {
		t.state = api.Halted
		return
	}
	next := t.ins[t.place]
	t.place++
	next.Do(t)
}

// Flush lets the first store that waits go into the memory, and tells whether there was one.
func (t *Thread) Flush() bool {
	first, ok := t.buffer.Pop()
	if ok {
		t.SetCell(first.at, first.what)
	}
	return ok
}

// Out tells what was given out, in memory that is new and has no spare room.
func (t *Thread) Out() []int64 {
	out := make([]int64, len(t.out))
	copy(out, t.out)
	return out
}

// State tells whether the thread runs.
func (t *Thread) State() int { return t.state }

// Waiting tells how many stores wait.
func (t *Thread) Waiting() int { return t.buffer.Len() }

// Register tells what a register has.
func (t *Thread) Register(r int) int64 { return t.registers[r] }

// SetRegister lets a register have a value.
func (t *Thread) SetRegister(r int, v int64) { t.registers[r] = v }

// Load tells what the thread sees in a cell: its own store that waits last, or else the memory.
func (t *Thread) Load(at int) int64 {
	for w := range t.buffer.Backward() {
		if w.at == at {
			return w.what
		}
	}
	return t.memory[at]
}

// Store lets a store wait; the first one goes into the memory if there is no room.
func (t *Thread) Store(at int, v int64) {
	if first, full := t.buffer.Push(waiting{at, v}); full {
		t.SetCell(first.at, first.what)
	}
}

// SetCell stores at once.
func (t *Thread) SetCell(at int, v int64) { t.memory[at] = v }

// Drain lets all that waits go into the memory.
func (t *Thread) Drain() {
	for t.Flush() {
	}
}

// Give gives a value out.
func (t *Thread) Give(v int64) { t.out = append(t.out, v) }

// Leap goes on at another place.
func (t *Thread) Leap(place int) { t.place = place }

// End lets the thread run no more.
func (t *Thread) End(state int) { t.state = state }
