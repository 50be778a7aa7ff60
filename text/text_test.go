package text

import (
	"errors"
	"math"
	"slices"
	"strings"
	"testing"

	"commits/api"
)

func TestNumber(t *testing.T) {
	for word, want := range map[string]int64{"0": 0, "7": 7, "-1": -1, "100": 100, "9223372036854775807": math.MaxInt64, "-9223372036854775808": math.MinInt64} {
		if got, ok := Number(word); !ok || got != want {
			t.Errorf("Number(%q): %d %v", word, got, ok)
		}
	}
	for _, word := range []string{"", "-", "--1", "+1", "00", "01", "-0", "-01", "1-", "1 ", " 1", "1_0", "0x1", "1e3", "1.0", "a", "r0", "\u0663", "1\x00", "9223372036854775808", "-9223372036854775809", strings.Repeat("9", 1000)} {
		if got, ok := Number(word); ok || got != 0 {
			t.Errorf("Number(%q): %d %v, but it is none", word, got, ok)
		}
	}
}

// TestLines: each line comes once, with its words, up to the first one that fails.
func TestLines(t *testing.T) {
	var got []string
	read := func(s string) (api.Errno, int) {
		got = nil
		err := Read(s, 20, func(l *Line) {
			word := l.Word()
			got = append(got, word)
			switch word {
			case "bad":
				l.Fail(api.ErrName)
			case "number":
				l.Number()
			case "small":
				l.Within(1, 3)
			}
			l.End()
		})
		return api.Tell(err)
	}
	for _, c := range []struct {
		s     string
		e     api.Errno
		line  int
		words []string
	}{
		{"a\nb\n", api.OK, 0, []string{"a", "b"}}, {"\n", api.OK, 0, []string{""}},
		{"a\nbad\nbad\n", api.ErrName, 2, []string{"a", "bad"}}, {"a\nb c\n", api.ErrSyntax, 2, []string{"a", "b"}},
		{"", api.ErrSyntax, 1, nil}, {"a", api.ErrSyntax, 1, nil}, {"a\nbad", api.ErrSyntax, 2, []string{"a"}},
		{"number 5\n", api.OK, 0, []string{"number"}}, {"number\n", api.ErrSyntax, 1, []string{"number"}}, {"number \n", api.ErrSyntax, 1, []string{"number"}}, {"number 05\n", api.ErrSyntax, 1, []string{"number"}},
		{"small 1\nsmall 3\n", api.OK, 0, []string{"small", "small"}}, {"small 0\n", api.ErrSyntax, 1, []string{"small"}}, {"small 4\n", api.ErrSyntax, 1, []string{"small"}},
		{strings.Repeat("\n", 20), api.OK, 0, make([]string, 20)}, {strings.Repeat("\n", 21), api.ErrLong, 0, nil},
	} {
		if e, line := read(c.s); e != c.e || line != c.line || !slices.Equal(got, c.words) {
			t.Errorf("Read(%q): %d in line %d, words %q, want %d in line %d, %q", c.s, e, line, got, c.e, c.line, c.words)
		}
	}
}

// TestMore: it tells whether Word has one more to take.
func TestMore(t *testing.T) {
	err := Read("a b\n", 20, func(l *Line) {
		for _, word := range []string{"a", "b"} {
			if !l.More() || l.Word() != word {
				t.Errorf("%s is not there", word)
			}
		}
		if l.More() {
			t.Error("there is more")
		}
	})
	if err != nil {
		t.Error(err)
	}
}

// TestOthers: a panic that is not of a line's making is not taken for a fault.
func TestOthers(t *testing.T) {
	mine := errors.New("mine")
	defer func() {
		if got := recover(); got != mine {
			t.Errorf("caught %v", got)
		}
	}()
	err := Read("a\n", 20, func(*Line) { panic(mine) })
	t.Errorf("Read answers %v", err)
}
