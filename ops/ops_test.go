package ops

import (
	"math"
	"testing"
)

func TestOf(t *testing.T) {
	const least, most = math.MinInt64, math.MaxInt64
	for _, c := range []struct {
		word       string
		a, b, want int64
	}{
		{"add", 2, 3, 5}, {"add", most, 1, least}, {"sub", 2, 3, -1}, {"sub", least, 1, most}, {"mul", -4, 3, -12}, {"mul", most, most, 1},
		{"div", 7, 2, 3}, {"div", -7, 2, -3}, {"div", 7, -2, -3}, {"div", -7, -2, 3}, {"div", least, -1, least}, {"div", 0, 5, 0},
		{"mod", 7, 2, 1}, {"mod", -7, 2, -1}, {"mod", 7, -2, 1}, {"mod", -7, -2, -1}, {"mod", least, -1, 0}, {"mod", 3, 5, 3},
		{"and", 12, 10, 8}, {"or", 12, 10, 14}, {"xor", 12, 10, 6}, {"and", -1, least, least}, {"or", least, most, -1}, {"xor", -1, most, least},
		{"shl", 1, 63, least}, {"shl", 3, 63, least}, {"shl", 5, 64, 5}, {"shl", 5, 65, 10}, {"shl", 1, -1, least}, {"shl", 1, -64, 1},
		{"shr", -8, 1, -4}, {"shr", -1, 5, -1}, {"shr", least, 63, -1}, {"shr", most, 62, 1}, {"shr", 9, 64, 9}, {"shr", 9, -63, 4},
		{"lt", -1, 0, 1}, {"lt", 0, 0, 0}, {"lt", least, most, 1}, {"lt", most, least, 0}, {"eq", 0, 0, 1}, {"eq", least, most, 0},
	} {
		op, ok := Named(c.word)
		if got, made := op.Of(c.a, c.b); !ok || !made || got != c.want {
			t.Errorf("%s %d %d: %d %v %v, want %d", c.word, c.a, c.b, got, ok, made, c.want)
		}
	}
}

func TestNone(t *testing.T) {
	for _, word := range []string{"div", "mod"} {
		op, _ := Named(word)
		for _, a := range []int64{0, 1, -1, math.MinInt64} {
			if got, ok := op.Of(a, 0); ok || got != 0 {
				t.Errorf("%s %d 0: %d %v", word, a, got, ok)
			}
		}
	}
	for _, word := range []string{"", "Add", "ad", "addd", "+", "mov", "neg", "not", "le"} {
		if op, ok := Named(word); ok || op != 0 {
			t.Errorf("Named(%q): %d %v", word, op, ok)
		}
	}
	if _, ok := Op(99).Of(1, 1); ok {
		t.Error("an operation that is none makes something")
	}
}

// TestWords: each operation has a sign and a word of its own, by which it is found.
func TestWords(t *testing.T) {
	want := map[string]string{"+": "add", "-": "sub", "*": "mul", "/": "div", "%": "mod", "&": "and", "|": "or", "^": "xor", "<<": "shl", ">>": "shr", "<": "lt", "==": "eq"}
	signs := Signs()
	if len(signs) != len(want) {
		t.Errorf("%d signs", len(signs))
	}
	for sign, word := range want {
		op, ok := signs[sign]
		if named, there := Named(word); !ok || !there || op != named || op.Word() != word {
			t.Errorf("%s: %d %v, %s: %d %v", sign, op, ok, word, named, there)
		}
	}
}
