package program

import (
	"strings"

	"commits/api"
	"commits/ops"
	"commits/text"
)

// reader is what is known of a program up to the line that is being read.
type reader struct {
	Program
	cells int      // of all shared variables
	open  []holder // the thread, and what is not ended in it, from outside inwards
	signs map[string]ops.Op
}

// holder is what statements are laid into.
type holder interface {
	add(s Stmt)
}

// Read takes a program apart, and tells its first fault (P7).
func Read(s string) (*Program, error) {
	r := &reader{Program: Program{Shared: map[string]Variable{}}, signs: ops.Signs()}
	if err := text.Read(s, api.MaxText, r.line); err != nil {
		return nil, err
	}
	// What is not there yet, or open yet, is missed in the line behind the last one.
	if len(r.open) != 1 {
		return nil, &api.Fault{Err: api.ErrPlace, Line: strings.Count(s, "\n") + 1}
	}
	if r.tooMuch() {
		return nil, &api.Fault{Err: api.ErrLimit}
	}
	return &r.Program, nil
}

// line reads the whole line ahead of all other questions, as ErrSyntax counts ahead of the other faults.
func (r *reader) line(l *text.Line) {
	switch word := l.Word(); word {
	case "shared":
		r.shared(l)
	case "thread":
		r.thread(l)
	case "end":
		r.end(l)
	default:
		s := r.readStmt(word, l)
		l.End()
		r.statement(l, s)
	}
}

func (r *reader) shared(l *text.Line) {
	name, cells := readName(l), 1
	if l.More() {
		cells = int(l.Within(1, api.MaxCells))
	}
	l.End()
	if len(r.Threads) > 0 {
		l.Fail(api.ErrPlace)
	}
	if r.isShared(name) {
		l.Fail(api.ErrName)
	}
	r.Shared[name] = Variable{r.cells, cells}
	r.cells += cells
}

func (r *reader) thread(l *text.Line) {
	l.End()
	if len(r.open) > 1 {
		l.Fail(api.ErrPlace)
	}
	t := &Thread{Locals: map[string]int{}}
	r.Threads = append(r.Threads, t)
	r.open = []holder{t}
}

func (r *reader) end(l *text.Line) {
	l.End()
	if len(r.open) < 2 {
		l.Fail(api.ErrPlace)
	}
	r.open = r.open[:len(r.open)-1]
}

// statement asks for the faults in the order in which they count, and lays the statement where it belongs.
func (r *reader) statement(l *text.Line, s Stmt) {
	switch {
	case !r.mayStand(s):
		l.Fail(api.ErrPlace)
	case !r.mayName(s):
		l.Fail(api.ErrName)
	case !r.hasRoom(s):
		l.Fail(api.ErrLimit)
	}
	t := r.last()
	t.count++
	if name := target(s); name != "" && !t.has(name) {
		t.Locals[name] = len(t.Locals)
	}
	r.open[len(r.open)-1].add(s)
	if h, ok := s.(holder); ok {
		r.open = append(r.open, h)
	}
}

// last is the thread that is being read.
func (r *reader) last() *Thread { return r.Threads[len(r.Threads)-1] }

func (r *reader) isShared(name string) bool {
	_, ok := r.Shared[name]
	return ok
}

func (t *Thread) has(name string) bool {
	_, ok := t.Locals[name]
	return ok
}
