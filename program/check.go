package program

import "commits/api"

// mayStand tells whether a statement may stand where the reader is (else ErrPlace).
func (r *reader) mayStand(s Stmt) bool {
	if len(r.open) == 0 {
		return false
	}
	switch s.(type) {
	case Get, Put:
		return r.inBlock()
	case *Atomic:
		return !r.inBlock()
	}
	return true
}

func (r *reader) inBlock() bool {
	for _, h := range r.open {
		if _, ok := h.(*Atomic); ok {
			return true
		}
	}
	return false
}

// mayName tells whether a statement may speak of what it names (else ErrName).
func (r *reader) mayName(s Stmt) bool {
	for _, v := range s.reads() {
		if v.Name != "" && !r.last().has(v.Name) {
			return false
		}
	}
	if r.isShared(target(s)) {
		return false
	}
	switch s := s.(type) {
	case Get:
		return r.isShared(s.Of)
	case Put:
		return r.isShared(s.Of)
	}
	return true
}

// target is the local variable that a statement sets; no name: none.
func target(s Stmt) string {
	switch s := s.(type) {
	case Set:
		return s.To
	case Operate:
		return s.To
	case Get:
		return s.To
	}
	return ""
}

// hasRoom tells whether a thread may have a statement more, and what comes with it (else ErrLimit).
func (r *reader) hasRoom(s Stmt) bool {
	t := r.last()
	if t.count == api.MaxStmts {
		return false
	}
	if name := target(s); name != "" && !t.has(name) && len(t.Locals) == api.MaxLocals {
		return false
	}
	_, holds := s.(holder)
	return !holds || len(r.open) <= api.MaxDepth
}

// tooMuch tells whether the whole has too much of something, which is no one line's fault.
func (r *reader) tooMuch() bool {
	if r.cells > api.MaxCells || len(r.Threads) > api.MaxThreads {
		return true
	}
	for _, t := range r.Threads {
		if blocks(t.Stmts) > api.MaxBlocks {
			return true
		}
		for s := range All(t.Stmts) {
			if block, ok := s.(*Atomic); ok && outs(block.Stmts) > api.MaxOuts {
				return true
			}
		}
	}
	return false
}
