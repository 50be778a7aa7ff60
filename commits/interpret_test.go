package commits_test

import (
	"maps"
	"strconv"
	"strings"

	"commits/api"
)

// statement is a line of a thread with its loops rolled out. If it is an if: to is where its end is.
type statement struct {
	words []string
	to    int
}

// rolledOut: the lines from i up to the end that fits, as statements behind those of done; and the place of that end.
func rolledOut(lines [][]string, i int, done []statement) ([]statement, int) {
	for ; i < len(lines) && lines[i][0] != "end"; i++ {
		w := lines[i]
		times := 1
		if w[0] == "loop" {
			times, _ = strconv.Atoi(w[1])
		} else {
			done = append(done, statement{words: w})
		}
		if !opens(w) {
			continue
		}
		at, first := len(done)-1, i+1
		for range times {
			done, i = rolledOut(lines, first, done)
		}
		switch w[0] {
		case "if":
			done[at].to = len(done)
		case "atomic":
			done = append(done, statement{words: []string{"end"}})
		}
	}
	return done, i
}

// cellName: which cell of which shared variable.
type cellName struct {
	of string
	at int64
}

// doing is a thread of a program that is done as the document tells it.
type doing struct {
	stmts  []statement
	place  int
	locals map[string]int64
	out    []int64
	state  int
}

// interpreted is a program that is done, thread by thread.
type interpreted struct {
	sizes   map[string]int64
	cells   map[cellName]int64
	threads []*doing
}

// interpret takes a program that has no fault.
func interpret(s string) *interpreted {
	p := &interpreted{sizes: map[string]int64{}, cells: map[cellName]int64{}}
	var threads [][][]string
	for _, line := range strings.Split(strings.TrimSuffix(s, "\n"), "\n") {
		w := strings.Fields(line)
		switch w[0] {
		case "shared":
			p.sizes[w[1]] = 1
			if len(w) == 3 {
				p.sizes[w[1]] = number(w[2])
			}
		case "thread":
			threads = append(threads, nil)
		default:
			last := len(threads) - 1
			threads[last] = append(threads[last], w)
		}
	}
	for _, lines := range threads {
		stmts, _ := rolledOut(lines, 0, nil)
		p.threads = append(p.threads, &doing{stmts: stmts, locals: map[string]int64{}})
	}
	return p
}

func number(word string) int64 {
	n, _ := strconv.ParseInt(word, 10, 64)
	return n
}

// run does a thread up to its end.
func (p *interpreted) run(t int) {
	d := p.threads[t]
	for d.state == api.Runs {
		p.next(d)
	}
}

// next does a thread's next statement, or its next block at one go.
func (p *interpreted) next(d *doing) {
	if d.place == len(d.stmts) {
		d.state = api.Halted
		return
	}
	if d.stmts[d.place].words[0] != "atomic" {
		d.do(p)
		return
	}
	cells, out := maps.Clone(p.cells), len(d.out)
	for d.state == api.Runs && d.stmts[d.place].words[0] != "end" {
		d.do(p)
	}
	if d.state != api.Runs {
		p.cells, d.out = cells, d.out[:out]
		return
	}
	d.place++
}

func (d *doing) value(word string) int64 {
	if word[0] >= 'a' && word[0] <= 'z' {
		return d.locals[word]
	}
	return number(word)
}

func (d *doing) do(p *interpreted) {
	s := d.stmts[d.place]
	w := s.words
	d.place++
	switch w[0] {
	case "set":
		d.set(w)
	case "get":
		if c, ok := d.cell(p, w[1:]); ok {
			d.locals[w[1]] = p.cells[c]
		}
	case "put":
		if c, ok := d.cell(p, w); ok {
			p.cells[c] = d.value(w[2])
		}
	case "out":
		d.out = append(d.out, d.value(w[1]))
	case "if":
		if d.value(w[1]) == 0 {
			d.place = s.to
		}
	}
}

// cell: the name is the second word; the cell's number stands behind at.
func (d *doing) cell(p *interpreted, w []string) (cellName, bool) {
	c := cellName{of: w[1]}
	if at := len(w) - 2; at > 1 && w[at] == "at" {
		c.at = d.value(w[at+1])
	}
	if c.at < 0 || c.at >= p.sizes[c.of] {
		d.state = api.TrapIndex
		return c, false
	}
	return c, true
}

func (d *doing) set(w []string) {
	a := d.value(w[2])
	if len(w) == 3 {
		d.locals[w[1]] = a
		return
	}
	v, ok := operated(w[3], a, d.value(w[4]))
	if !ok {
		d.state = api.TrapZero
		return
	}
	d.locals[w[1]] = v
}

// operated is what an operation makes of two values; false: there is nothing.
func operated(sign string, a, b int64) (int64, bool) {
	switch sign {
	case "+":
		a += b
	case "-":
		a -= b
	case "*":
		a *= b
	case "/", "%":
		if b == 0 {
			return 0, false
		}
		if sign == "/" {
			a /= b
		} else {
			a %= b
		}
	case "&":
		a &= b
	case "|":
		a |= b
	case "^":
		a ^= b
	case "<<":
		a <<= b & 63
	case ">>":
		a >>= b & 63
	case "<":
		a = truth(a < b)
	case "==":
		a = truth(a == b)
	}
	return a, true
}

func truth(holds bool) int64 {
	if holds {
		return 1
	}
	return 0
}
