package program

import (
	"commits/api"
	"commits/ops"
	"commits/text"
)

// readStmt reads what stands behind a statement's first word.
func (r *reader) readStmt(word string, l *text.Line) Stmt {
	switch word {
	case "set":
		return r.readSet(l)
	case "get":
		to, of := readName(l), readName(l)
		return Get{to, Cell{of, readAt(l)}}
	case "put":
		of, what := readName(l), readValue(l)
		return Put{Cell{of, readAt(l)}, what}
	case "out":
		return Out{readValue(l)}
	case "atomic":
		return &Atomic{}
	case "if":
		return &If{On: readValue(l)}
	case "loop":
		return &Loop{Times: int(l.Within(1, api.MaxLoop))}
	}
	l.Fail(api.ErrSyntax)
	return nil
}

func (r *reader) readSet(l *text.Line) Stmt {
	to, a := readName(l), readValue(l)
	if !l.More() {
		return Set{to, a}
	}
	op := r.readOp(l)
	return Operate{to, op, a, readValue(l)}
}

func (r *reader) readOp(l *text.Line) ops.Op {
	op, ok := r.signs[l.Word()]
	if !ok {
		l.Fail(api.ErrSyntax)
	}
	return op
}

// readAt reads which cell is meant; if none is said it is cell 0.
func readAt(l *text.Line) Value {
	if !l.More() {
		return Value{}
	}
	if l.Word() != "at" {
		l.Fail(api.ErrSyntax)
	}
	return readValue(l)
}

func readValue(l *text.Line) Value {
	word := l.Word()
	if isName(word) {
		return Value{Name: word}
	}
	n, ok := text.Number(word)
	if !ok {
		l.Fail(api.ErrSyntax)
	}
	return Value{Number: n}
}

func readName(l *text.Line) string {
	word := l.Word()
	if !isName(word) {
		l.Fail(api.ErrSyntax)
	}
	return word
}

func isName(word string) bool {
	if word == "" || len(word) > api.MaxName {
		return false
	}
	for i := range len(word) {
		if word[i] < 'a' || word[i] > 'z' {
			return false
		}
	}
	return true
}
