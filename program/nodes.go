// Package program: the statements of a program, and how its text is read.
package program

import "commits/ops"

// Program is a program that has no fault.
type Program struct {
	Shared  map[string]Variable
	Threads []*Thread
}

// Variable is a shared variable: which of the cells of all of them is its first, and how many it has.
type Variable struct {
	First, Cells int
}

// Thread is a thread, with the numbers of its local variables, from 0 on.
type Thread struct {
	Body
	Locals map[string]int
	count  int // of its statements, those within others too
}

// Body is a list of statements: those of a thread, or those within another one.
type Body struct {
	Stmts []Stmt
}

func (b *Body) add(s Stmt) { b.Stmts = append(b.Stmts, s) }

// Value is what a statement reads: a local variable or, if it has no name, a number.
type Value struct {
	Name   string
	Number int64
}

// Cell is how a statement says which cell of a shared variable it speaks of.
type Cell struct {
	Of string
	At Value
}

// Stmt is a statement; a type switch tells which one.
type Stmt interface {
	reads() []Value // those of this line, not those of what stands within it
}

type (
	// Set is a set without an operation.
	Set struct {
		To   string
		From Value
	}
	// Operate is a set with an operation.
	Operate struct {
		To   string
		Op   ops.Op
		A, B Value
	}
	// Get reads a shared cell.
	Get struct {
		To string
		Cell
	}
	// Put writes a shared cell.
	Put struct {
		Cell
		What Value
	}
	// Out gives out.
	Out struct {
		What Value
	}
	// Atomic is a block.
	Atomic struct {
		Body
	}
	// If has what is done if a value is not 0.
	If struct {
		Body
		On Value
	}
	// Loop has what is done several times.
	Loop struct {
		Body
		Times int
	}
)

func (c Cell) reads() []Value { return []Value{c.At} }

func (s Set) reads() []Value { return []Value{s.From} }

func (s Operate) reads() []Value { return []Value{s.A, s.B} }

func (s Put) reads() []Value { return append(s.Cell.reads(), s.What) }

func (s Out) reads() []Value { return []Value{s.What} }

func (s *Atomic) reads() []Value { return nil }

func (s *If) reads() []Value { return []Value{s.On} }

func (s *Loop) reads() []Value { return nil }
