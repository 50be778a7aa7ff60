package program

import "iter"

// All yields statements and those within them, in the order of the text.
func All(stmts []Stmt) iter.Seq[Stmt] {
	return func(yield func(Stmt) bool) { walk(stmts, yield) }
}

// walk tells whether there is more to be yielded: false, if yield wants no more.
func walk(stmts []Stmt, yield func(Stmt) bool) bool {
	for _, s := range stmts {
		if !yield(s) || !walk(within(s), yield) {
			return false
		}
	}
	return true
}

// within has the statements that stand within another one.
func within(s Stmt) []Stmt {
	switch s := s.(type) {
	case *Atomic:
		return s.Stmts
	case *If:
		return s.Stmts
	case *Loop:
		return s.Stmts
	}
	return nil
}

// outs tells how often statements give out, if all that ifs have within is done.
func outs(stmts []Stmt) int {
	return count(stmts, func(s Stmt) bool { _, ok := s.(Out); return ok })
}

// blocks tells how often statements come to a block, if all that ifs have within is done.
func blocks(stmts []Stmt) int {
	return count(stmts, func(s Stmt) bool { _, ok := s.(*Atomic); return ok })
}

// count tells how often statements come to one of a kind, if all that ifs have within is done.
func count(stmts []Stmt, kind func(Stmt) bool) int {
	n := 0
	for _, s := range stmts {
		if kind(s) {
			n++
		}
		n += times(s) * count(within(s), kind)
	}
	return n
}

// times tells how often what stands within a statement is done.
func times(s Stmt) int {
	if loop, ok := s.(*Loop); ok {
		return loop.Times
	}
	return 1
}
