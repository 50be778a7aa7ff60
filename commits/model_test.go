package commits_test

import (
	"math/rand"
	"slices"
	"strconv"
	"strings"
	"testing"

	"commits/api"
	"commits/commits"
)

// randomCode is a code of two threads that speak of few cells, so that they meet.
func randomCode(r *rand.Rand) string {
	var b strings.Builder
	reg := func() string { return " r" + strconv.Itoa(r.Intn(3)) }
	num := func() string { return " " + strconv.Itoa(r.Intn(5)-1) }
	val := func() string {
		if r.Intn(2) == 0 {
			return reg()
		}
		return num()
	}
	for range 2 {
		b.WriteString("thread;mov r0 1;mov r1 2;")
		for range 12 {
			b.WriteString([]string{
				"mov" + reg() + val(), "add" + reg() + val() + val(), "div" + reg() + val() + val(), "load" + reg() + val() + num(), "load" + reg() + num() + " 1",
				"store" + val() + num() + val(), "store" + num() + " 1" + val(), "store 3 0" + val(), "store 2 0" + val(), "cas" + reg() + num() + " 1" + val() + val(), "xadd" + reg() + num() + " 1" + val(),
				"fence", "out" + val(), "out" + reg(), "jz" + val() + " " + strconv.Itoa(r.Intn(16)), "lt" + reg() + val() + val(), "eq" + reg() + val() + val(), "sub" + reg() + val() + val(),
			}[r.Intn(18)] + ";")
		}
	}
	return b.String()
}

// randomPicks: that many picks of two bytes each: a step of two threads, or a flush.
func randomPicks(r *rand.Rand, n int) string {
	var b strings.Builder
	for range n {
		b.WriteString([]string{"00", "11", "01", "10", "f0", "f1"}[r.Intn(6)])
	}
	return b.String()
}

// operand is a word of an instruction: a register's number or, if that is below 0, a number.
type operand struct {
	register int
	number   int64
}

// modelIns is an instruction: its first word, and the others.
type modelIns struct {
	name  string
	words []operand
}

// model does a code as the document tells it, straight from its words: against it the machine is held. A copy of it goes on by itself.
type model struct {
	ins     *[api.MaxThreads][]modelIns
	regs    [api.MaxThreads][api.Regs]int64
	place   [api.MaxThreads]int
	stores  [api.MaxThreads][api.MaxStore][2]int64 // those that wait: address and value
	threads int
	seen
}

// newModel takes a code that has no fault.
func newModel(code string) *model {
	m := &model{ins: &[api.MaxThreads][]modelIns{}}
	for t := range m.state {
		m.state[t] = api.Halted
	}
	for _, line := range strings.Split(strings.TrimSuffix(code, "\n"), "\n") {
		if line == "thread" {
			m.state[m.threads] = api.Runs
			m.threads++
			continue
		}
		words := strings.Fields(line)
		in := modelIns{name: words[0]}
		for _, w := range words[1:] {
			in.words = append(in.words, operandOf(w))
		}
		m.ins[m.threads-1] = append(m.ins[m.threads-1], in)
	}
	return m
}

func operandOf(word string) operand {
	if word[0] == 'r' {
		return operand{register: int(word[1] - '0')}
	}
	return operand{-1, number(word)}
}

func (m *model) value(t int, w operand) int64 {
	if w.register >= 0 {
		return m.regs[t][w.register]
	}
	return w.number
}

func (m *model) flush(t int) {
	if m.waiting[t] > 0 {
		m.memory[m.stores[t][0][0]] = m.stores[t][0][1]
		m.waiting[t]--
		copy(m.stores[t][:], m.stores[t][1:])
		m.stores[t][m.waiting[t]] = [2]int64{}
	}
}

// cell is the address that two words make; false: there is none, and the thread is trapped.
func (m *model) cell(t int, words []operand) (int64, bool) {
	at := m.value(t, words[0]) + m.value(t, words[1])
	if at < 0 || at > 255 {
		m.state[t] = api.TrapAddress
	}
	return at, m.state[t] == api.Runs
}

func (m *model) step(t int) {
	if m.state[t] != api.Runs {
		return
	}
	if m.place[t] >= len(m.ins[t]) {
		m.state[t] = api.Halted
		return
	}
	in := m.ins[t][m.place[t]]
	m.place[t]++
	if in.name == "fence" || in.name == "cas" || in.name == "xadd" {
		for m.waiting[t] > 0 {
			m.flush(t)
		}
	}
	m.do(t, in.name, in.words)
}

func (m *model) do(t int, name string, w []operand) {
	switch name {
	case "fence":
	case "mov":
		m.regs[t][w[0].register] = m.value(t, w[1])
	case "out":
		m.out[t] = append(slices.Clip(m.out[t]), m.value(t, w[0]))
	case "jmp":
		m.place[t] = int(w[0].number)
	case "jz":
		if m.value(t, w[0]) == 0 {
			m.place[t] = int(w[1].number)
		}
	case "trap":
		m.state[t] = int(w[0].number)
	case "halt":
		m.state[t] = api.Halted
	case "load", "store", "cas", "xadd":
		m.access(t, name, w)
	default:
		v, ok := operated(sign(name), m.value(t, w[1]), m.value(t, w[2]))
		if !ok {
			m.state[t] = api.TrapZero
			return
		}
		m.regs[t][w[0].register] = v
	}
}

func (m *model) access(t int, name string, w []operand) {
	if name == "store" {
		if at, ok := m.cell(t, w); ok {
			if m.waiting[t] == api.MaxStore {
				m.flush(t)
			}
			m.stores[t][m.waiting[t]] = [2]int64{at, m.value(t, w[2])}
			m.waiting[t]++
		}
		return
	}
	at, ok := m.cell(t, w[1:])
	if !ok {
		return
	}
	had := m.memory[at]
	switch name {
	case "load":
		for _, s := range m.stores[t][:m.waiting[t]] {
			if s[0] == at {
				had = s[1]
			}
		}
	case "cas":
		same := had == m.value(t, w[3])
		if same {
			m.memory[at] = m.value(t, w[4])
		}
		had = truth(same)
	case "xadd":
		m.memory[at] += m.value(t, w[3])
	}
	m.regs[t][w[0].register] = had
}

// sign is how a program says what a code says by a word.
func sign(name string) string {
	switch name {
	case "add":
		return "+"
	case "sub":
		return "-"
	case "mul":
		return "*"
	case "div":
		return "/"
	case "mod":
		return "%"
	case "and":
		return "&"
	case "or":
		return "|"
	case "xor":
		return "^"
	case "shl":
		return "<<"
	case "shr":
		return ">>"
	case "lt":
		return "<"
	}
	return "=="
}

func (m *model) pick(p string) {
	if p[0] == 'f' {
		m.flush(int(p[1] - '0'))
		return
	}
	m.step(int(p[0] - '0'))
	m.step(int(p[1] - '0'))
}

// P4, P5: behind every pick the machine tells what the model tells.
func TestModel(t *testing.T) {
	r := rand.New(rand.NewSource(2))
	for range 2000 {
		code := randomCode(r)
		m, err := commits.Load(lines(code))
		if err != nil {
			t.Fatalf("%q: %v", code, err)
		}
		want := newModel(lines(code))
		picks := randomPicks(r, 40)
		for i := 0; i < len(picks); i += 2 {
			pick(m, picks[i:i+2])
			want.pick(picks[i : i+2])
			if got := look(m); !got.same(want.seen) {
				t.Fatalf("%q, %q: %v, want %v", code, picks[:i+2], got, want.seen)
			}
		}
	}
}
