// Package ops: the operations on two values.
package ops

// Op is an operation.
type Op int

const (
	Add Op = iota
	Sub
	Mul
	Div
	Mod
	And
	Or
	Xor
	Shl
	Shr
	Lt
	Eq
)

// The word of each operation in a code.
var words = [...]string{"add", "sub", "mul", "div", "mod", "and", "or", "xor", "shl", "shr", "lt", "eq"}

// Named is the operation that a code calls by that word, if there is one.
func Named(word string) (Op, bool) {
	for i := range words {
		if words[i] == word {
			return Op(i), true
		}
	}
	return 0, false
}

// Word is what a code calls the operation.
func (o Op) Word() string { return words[o] }

// Signs has the operation that a program calls by each sign.
func Signs() map[string]Op {
	return map[string]Op{
		"+": Add, "-": Sub, "*": Mul, "/": Div, "%": Mod,
		"&": And, "|": Or, "^": Xor, "<<": Shl, ">>": Shr,
		"<": Lt, "==": Eq,
	}
}

// Of is what the operation makes of two values; false: they have none (a division by 0).
func (o Op) Of(a, b int64) (int64, bool) {
	switch o {
	case Add:
		return a + b, true
	case Sub:
		return a - b, true
	case Mul:
		return a * b, true
	case Div, Mod:
		return divided(o, a, b)
	case And:
		return a & b, true
	case Or:
		return a | b, true
	case Xor:
		return a ^ b, true
	case Shl:
		return a << places(b), true
	case Shr:
		return a >> places(b), true
	case Lt:
		return truth(a < b), true
	case Eq:
		return truth(a == b), true
	}
	return 0, false
}

// divided leaves the least number by -1 to the language, which wraps it round as the document asks.
func divided(o Op, a, b int64) (int64, bool) {
	switch {
	case b == 0:
		return 0, false
	case o == Div:
		return a / b, true
	}
	return a % b, true
}

// places is how far a shift by b goes: its last six bits alone count.
func places(b int64) uint64 { return uint64(b) & 63 }

func truth(holds bool) int64 {
	if holds {
		return 1
	}
	return 0
}
