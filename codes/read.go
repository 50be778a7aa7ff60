package codes

import (
	"commits/api"
	"commits/ops"
	"commits/text"
)

// Read takes a code apart: the instructions of each of its threads (P2).
func Read(s string) ([][]Ins, error) {
	var threads [][]Ins
	err := text.Read(s, api.MaxCode, func(l *text.Line) {
		threads = withLine(threads, l)
	})
	if err != nil {
		return nil, err
	}
	return threads, nil
}

// withLine reads the whole line ahead of asking for its place, as ErrSyntax counts ahead of the other faults.
func withLine(threads [][]Ins, l *text.Line) [][]Ins {
	word := l.Word()
	if word == "thread" {
		l.End()
		if len(threads) == api.MaxThreads {
			l.Fail(api.ErrLimit)
		}
		return append(threads, nil)
	}
	ins := readIns(word, l)
	l.End()
	if len(threads) == 0 {
		l.Fail(api.ErrPlace)
	}
	last := &threads[len(threads)-1]
	if len(*last) == api.MaxIns {
		l.Fail(api.ErrLimit)
	}
	*last = append(*last, ins)
	return threads
}

// readIns leans on the order in which a literal's fields are worked out: from left to right, as the words stand.
func readIns(word string, l *text.Line) Ins {
	if op, ok := ops.Named(word); ok {
		return operate{op, readRegister(l), readValue(l), readValue(l)}
	}
	switch word {
	case "mov":
		return move{readRegister(l), readValue(l)}
	case "load":
		return load{readRegister(l), readCell(l)}
	case "store":
		return store{readCell(l), readValue(l)}
	case "cas":
		return compareAndSwap{readRegister(l), readCell(l), readValue(l), readValue(l)}
	case "xadd":
		return fetchAndAdd{readRegister(l), readCell(l), readValue(l)}
	case "fence":
		return fence{}
	case "out":
		return give{readValue(l)}
	case "jmp":
		return leap{readPlace(l)}
	case "jz":
		return leapIf{readValue(l), readPlace(l)}
	case "trap":
		return end{int(l.Within(1, 9))}
	case "halt":
		return end{api.Halted}
	}
	l.Fail(api.ErrSyntax)
	return nil
}

func readRegister(l *text.Line) register {
	r, ok := registerNamed(l.Word())
	if !ok {
		l.Fail(api.ErrSyntax)
	}
	return r
}

func readValue(l *text.Line) value {
	word := l.Word()
	if r, ok := registerNamed(word); ok {
		return r
	}
	n, ok := text.Number(word)
	if !ok {
		l.Fail(api.ErrSyntax)
	}
	return number(n)
}

func readCell(l *text.Line) cell { return cell{readValue(l), l.Number()} }

func readPlace(l *text.Line) int { return int(l.Within(0, api.MaxIns)) }

func registerNamed(word string) (register, bool) {
	if len(word) != 2 || word[0] != 'r' || word[1] < '0' || word[1] >= '0'+api.Regs {
		return 0, false
	}
	return register(word[1] - '0'), true
}
