package commits_test

import (
	"math/rand"
	"strconv"
	"strings"
	"testing"

	"commits/api"
	"commits/commits"
)

// randomCode is a code of two threads that speak of few cells, so that they meet.
func randomCode(r *rand.Rand) string {
	var b strings.Builder
	reg := func() string { return " r" + strconv.Itoa(r.Intn(3)) }
	num := func() string { return " " + strconv.Itoa(r.Intn(5)-1) }
	val := func() string {
		if r.Intn(2) == 0 {
			return reg()
		}
		return num()
	}
	for range 2 {
		b.WriteString("thread;mov r0 1;mov r1 2;")
		for range 12 {
			b.WriteString([]string{
				"mov" + reg() + val(), "add" + reg() + val() + val(), "div" + reg() + val() + val(), "load" + reg() + val() + num(), "load" + reg() + num() + " 1",
				"store" + val() + num() + val(), "store" + num() + " 1" + val(), "store 3 0" + val(), "store 2 0" + val(), "cas" + reg() + num() + " 1" + val() + val(), "xadd" + reg() + num() + " 1" + val(),
				"fence", "out" + val(), "out" + reg(), "jz" + val() + " " + strconv.Itoa(r.Intn(16)),
			}[r.Intn(15)] + ";")
		}
	}
	return b.String()
}

// randomPicks: that many picks of two bytes each: a step of two threads, or a flush.
func randomPicks(r *rand.Rand, n int) string {
	var b strings.Builder
	for range n {
		b.WriteString([]string{"00", "11", "01", "10", "f0", "f1"}[r.Intn(6)])
	}
	return b.String()
}

// model does a code as the document tells it, straight from its words: against it the machine is held.
type model struct {
	ins     [2][][]string
	regs    [2]map[string]int64
	place   [2]int
	waiting [2][][2]int64
	seen
}

func newModel(code string) *model {
	m := &model{}
	for t, s := range strings.Split(strings.TrimPrefix(code, "thread;"), "thread;") {
		m.regs[t] = map[string]int64{}
		for _, line := range strings.Split(strings.TrimSuffix(s, ";"), ";") {
			m.ins[t] = append(m.ins[t], strings.Fields(line))
		}
	}
	m.state[2] = api.Halted
	return m
}

func (m *model) value(t int, word string) int64 {
	if word[0] == 'r' {
		return m.regs[t][word]
	}
	n, _ := strconv.ParseInt(word, 10, 64)
	return n
}

func (m *model) flush(t int) {
	if len(m.waiting[t]) > 0 {
		m.memory[m.waiting[t][0][0]] = m.waiting[t][0][1]
		m.waiting[t] = m.waiting[t][1:]
	}
}

// cell is the address that two words make; false: there is none, and the thread is trapped.
func (m *model) cell(t int, words []string) (int64, bool) {
	at := m.value(t, words[0]) + m.value(t, words[1])
	if at < 0 || at > 255 {
		m.state[t] = 9
	}
	return at, m.state[t] == 0
}

func (m *model) step(t int) {
	if m.state[t] != 0 {
		return
	}
	if m.place[t] >= len(m.ins[t]) {
		m.state[t] = 10
		return
	}
	w := m.ins[t][m.place[t]]
	m.place[t]++
	if w[0] == "fence" || w[0] == "cas" || w[0] == "xadd" {
		for len(m.waiting[t]) > 0 {
			m.flush(t)
		}
	}
	m.do(t, w)
}

func (m *model) do(t int, w []string) {
	switch w[0] {
	case "mov":
		m.regs[t][w[1]] = m.value(t, w[2])
	case "add":
		m.regs[t][w[1]] = m.value(t, w[2]) + m.value(t, w[3])
	case "div":
		if m.value(t, w[3]) == 0 {
			m.state[t] = 1
			return
		}
		m.regs[t][w[1]] = m.value(t, w[2]) / m.value(t, w[3])
	case "out":
		m.out[t] = append(m.out[t], m.value(t, w[1]))
	case "jz":
		if m.value(t, w[1]) == 0 {
			m.place[t] = int(m.value(t, w[2]))
		}
	case "load":
		if at, ok := m.cell(t, w[2:]); ok {
			v := m.memory[at]
			for _, s := range m.waiting[t] {
				if s[0] == at {
					v = s[1]
				}
			}
			m.regs[t][w[1]] = v
		}
	case "store":
		if at, ok := m.cell(t, w[1:]); ok {
			if len(m.waiting[t]) == 4 {
				m.flush(t)
			}
			m.waiting[t] = append(m.waiting[t], [2]int64{at, m.value(t, w[3])})
		}
	case "cas":
		if at, ok := m.cell(t, w[2:]); ok {
			var done int64
			if m.memory[at] == m.value(t, w[4]) {
				m.memory[at], done = m.value(t, w[5]), 1
			}
			m.regs[t][w[1]] = done
		}
	case "xadd":
		if at, ok := m.cell(t, w[2:]); ok {
			had := m.memory[at]
			m.memory[at] += m.value(t, w[4])
			m.regs[t][w[1]] = had
		}
	}
}

func (m *model) pick(p string) {
	if p[0] == 'f' {
		m.flush(int(p[1] - '0'))
		return
	}
	m.step(int(p[0] - '0'))
	m.step(int(p[1] - '0'))
}

// P4, P5: behind every pick the machine tells what the model tells.
func TestModel(t *testing.T) {
	r := rand.New(rand.NewSource(2))
	for range 2000 {
		code := randomCode(r)
		m, err := commits.Load(lines(code))
		if err != nil {
			t.Fatalf("%q: %v", code, err)
		}
		want := newModel(code)
		picks := randomPicks(r, 40)
		for i := 0; i < len(picks); i += 2 {
			pick(m, picks[i:i+2])
			want.pick(picks[i : i+2])
			for k := range 2 {
				want.seen.waiting[k] = len(want.waiting[k])
			}
			if got := look(m); !got.same(want.seen) {
				t.Fatalf("%q, %q: %v, want %v", code, picks[:i+2], got, want.seen)
			}
		}
	}
}
