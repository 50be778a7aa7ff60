// Package text: texts of lines of words, read up to their first fault.
package text

import (
	"strconv"
	"strings"

	"commits/api"
)

// stop is the panic by which a line ends the reading, so that no reader of a part of it has to hand its fault on.
type stop struct {
	fault *api.Fault
}

// Line is a line that is being read, word by word.
type Line struct {
	number int
	words  []string // those that have not been taken yet
}

// Read hands the lines of a text of at most so many bytes to take, one after the other, and tells the first fault.
func Read(s string, most int, take func(*Line)) (err error) {
	if len(s) > most {
		return &api.Fault{Err: api.ErrLong}
	}
	defer func() {
		switch why := recover().(type) {
		case nil:
		case stop:
			err = why.fault
		default:
			panic(why)
		}
	}()
	// The empty text has a first line, too: one that is not ended.
	for number := 1; number == 1 || s != ""; number++ {
		line, rest, ended := strings.Cut(s, "\n")
		l := &Line{number: number, words: strings.Split(line, " ")}
		if !ended {
			l.Fail(api.ErrSyntax)
		}
		take(l)
		s = rest
	}
	return nil
}

// Fail ends the reading with a fault in this line: it does not come back.
func (l *Line) Fail(e api.Errno) { panic(stop{&api.Fault{Err: e, Line: l.number}}) }

// Word takes the next word.
func (l *Line) Word() string {
	if !l.More() {
		l.Fail(api.ErrSyntax)
	}
	word := l.words[0]
	l.words = l.words[1:]
	return word
}

// Number takes the next word, which must be a number.
func (l *Line) Number() int64 {
	n, ok := Number(l.Word())
	if !ok {
		l.Fail(api.ErrSyntax)
	}
	return n
}

// Within takes the next word, which must be a number from least to most.
func (l *Line) Within(least, most int64) int64 {
	n := l.Number()
	if n < least || n > most {
		l.Fail(api.ErrSyntax)
	}
	return n
}

// More tells whether a word is left.
func (l *Line) More() bool { return len(l.words) > 0 }

// End sees to it that no word is left.
func (l *Line) End() {
	if l.More() {
		l.Fail(api.ErrSyntax)
	}
}

// Number is the number that a word is, if it is one.
func Number(word string) (int64, bool) {
	if !numeral(word) {
		return 0, false
	}
	n, err := strconv.ParseInt(word, 10, 64)
	if err != nil {
		return 0, false
	}
	return n, true
}

// numeral tells whether a word is written as a number is: the library takes a plus and noughts ahead as well.
func numeral(word string) bool {
	digits := strings.TrimPrefix(word, "-")
	if digits == "" || digits[0] == '0' && word != "0" {
		return false
	}
	for i := range len(digits) {
		if digits[i] < '0' || digits[i] > '9' {
			return false
		}
	}
	return true
}
