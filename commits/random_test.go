package commits_test

import (
	"math/rand"
	"strconv"
	"strings"

	"commits/api"
)

// writer writes programs at random that have no fault.
type writer struct {
	*rand.Rand
	b      strings.Builder
	shared []string // a name as often as it has cells
	locals []string // of the thread that is being written, as all that follows
	count  int
}

// randomProgram is a program of one to three threads, all of which speak of the same few cells.
func randomProgram(r *rand.Rand) string { return faultless(r, (*writer).program) }

// randomMeeting is a program of two or three threads that have few blocks, of the same few cells, and little else.
func randomMeeting(r *rand.Rand) string { return faultless(r, (*writer).meeting) }

// faultless writes until there is no fault.
func faultless(r *rand.Rand, write func(*writer)) string {
	for {
		w := &writer{Rand: r}
		write(w)
		s := w.b.String()
		if e, _ := judge(s); e == api.OK {
			return s
		}
	}
}

func (w *writer) line(words ...string) { w.b.WriteString(strings.Join(words, " ") + "\n") }

func (w *writer) of(words ...string) string { return words[w.Intn(len(words))] }

func (w *writer) program() {
	for _, name := range []string{"x", "y", "thread"}[:w.Intn(4)] {
		n := 1 + w.Intn(3)
		if w.shared = append(w.shared, name); n == 1 && w.Intn(2) == 0 {
			w.line("shared", name)
			continue
		}
		w.line("shared", name, strconv.Itoa(n))
	}
	for range 1 + w.Intn(3) {
		w.line("thread")
		w.locals, w.count = nil, 0
		w.body(0, false)
	}
}

func (w *writer) meeting() {
	for _, line := range []string{"shared x", "shared y 2"}[w.Intn(2):] {
		w.shared = append(w.shared, strings.Fields(line)[1])
		w.line(line)
	}
	threads := 2 + w.Intn(2)
	for range threads {
		w.line("thread")
		w.locals, w.count = nil, 0
		for range 1 + w.Intn(4-threads) {
			w.nest(0, true, "atomic")
			if w.Intn(2) == 0 {
				w.line("out", w.value())
			}
		}
	}
}

func (w *writer) body(depth int, block bool) {
	for range 1 + w.Intn(8-2*depth) {
		if w.count == 14 {
			return
		}
		w.count++
		w.statement(depth, block)
	}
}

func (w *writer) statement(depth int, block bool) {
	kind := w.Intn(12)
	if block && len(w.shared) > 0 && kind > 5 {
		w.access()
		return
	}
	switch {
	case kind < 3:
		value := w.value()
		if w.Intn(4) > 0 {
			value += " " + w.of("+", "-", "*", "/", "%", "&", "|", "^", "<<", ">>", "<", "==", "+", "-") + " " + w.value()
		}
		w.line("set", w.local(), value)
	case kind < 5 || depth == 3:
		w.line("out", w.value())
	case kind < 6:
		w.nest(depth, block, "if", w.of("0", "1", w.value()))
	case kind < 7 || block:
		w.nest(depth, block, "loop", strconv.Itoa(1+w.Intn(4)))
	default:
		w.nest(depth, true, "atomic")
	}
}

func (w *writer) nest(depth int, block bool, words ...string) {
	w.line(words...)
	w.body(depth+1, block)
	w.line("end")
}

// access is a get or a put, mostly of a cell that is there.
func (w *writer) access() {
	name, at, value := w.of(w.shared...), "", w.value()
	switch w.Intn(9) {
	case 0:
		at = " at " + w.of("0", "1", "2")
	case 1:
		at = " at " + w.value()
	case 2:
		at = " at 0"
	}
	if w.Intn(2) == 0 {
		w.line("put", name, value+at)
		return
	}
	w.line("get", w.local(), name+at)
}

func (w *writer) value() string {
	if len(w.locals) > 0 && w.Intn(3) > 0 {
		return w.of(w.locals...)
	}
	return w.of("0", "1", "2", "3", "-1", "7", "-7", "64", "9223372036854775807", "-9223372036854775808", strconv.Itoa(w.Intn(100)))
}

// local is a local variable that is to be set; it is there from now on.
func (w *writer) local() string {
	if n := len(w.locals); n == 4 || n > 0 && w.Intn(3) > 0 {
		return w.of(w.locals...)
	}
	name := []string{"a", "bb", "at", "abcdef"}[len(w.locals)]
	w.locals = append(w.locals, name)
	return name
}
