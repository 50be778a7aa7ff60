package commits_test

import (
	"math/rand"
	"slices"
	"strings"
	"testing"

	"commits/api"
	"commits/commits"
)

// P1: a list is its owner's: the machine does not see what is done to it, nor does another list.
func TestLists(t *testing.T) {
	m := load(t, "thread;"+strings.Repeat("out 1;", 40))
	var lists [][]int64
	for n := range 40 {
		m.Step(0)
		l := m.Out(0)
		if len(l) != n+1 || l[n] != 1 {
			t.Fatalf("behind %d steps: %v", n+1, l)
		}
		for i := range l {
			l[i] = int64(n)
		}
		lists = append(lists, l)
		for spare := l[:cap(l)]; len(spare) > n+1; spare = spare[:len(spare)-1] {
			spare[len(spare)-1] = 99
		}
	}
	for n, l := range lists {
		if len(l) != n+1 || slices.Max(l) != int64(n) || slices.Min(l) != int64(n) {
			t.Errorf("the list behind %d steps became %v", n+1, l)
		}
	}
	if l := m.Out(0); slices.Max(l) != 1 || slices.Min(l) != 1 {
		t.Errorf("the machine's list became %v", l)
	}
}

// P1: a Load that fails gives a machine that is nil, and its calls answer as of threads and cells that are not there.
func TestNil(t *testing.T) {
	failed, err := commits.Load("x")
	if failed != nil || err == nil {
		t.Fatalf("Load: %v, %v", failed, err)
	}
	for _, m := range []*commits.Machine{failed, {}} {
		m.Step(0)
		m.Flush(0)
		if m.Out(0) != nil || m.State(0) != api.Halted || m.Waiting(0) != 0 || m.Peek(0) != 0 {
			t.Errorf("%v, %d, %d, %d", m.Out(0), m.State(0), m.Waiting(0), m.Peek(0))
		}
	}
}

// seen is all that a machine tells.
type seen struct {
	out     [api.MaxThreads][]int64
	state   [api.MaxThreads]int
	waiting [api.MaxThreads]int
	memory  [api.Cells]int64
}

func look(m *commits.Machine) seen {
	var s seen
	for t := range api.MaxThreads {
		s.out[t], s.state[t], s.waiting[t] = m.Out(t), m.State(t), m.Waiting(t)
	}
	for at := range api.Cells {
		s.memory[at] = m.Peek(at)
	}
	return s
}

func (s seen) same(o seen) bool {
	for t := range api.MaxThreads {
		if !slices.Equal(s.out[t], o.out[t]) {
			return false
		}
	}
	return s.state == o.state && s.waiting == o.waiting && s.memory == o.memory
}

// P1: what a machine does hangs on its code and its calls alone: machines that run between each other's calls do what they do alone.
func TestMachines(t *testing.T) {
	r := rand.New(rand.NewSource(1))
	for range 200 {
		code := randomCode(r)
		one, two, other := load(t, code), load(t, code), load(t, randomCode(r))
		picks := randomPicks(r, 100)
		pick(one, picks)
		for i := 0; i < len(picks); i += 2 {
			pick(two, picks[i:i+2])
			pick(other, picks[len(picks)-2-i:len(picks)-i])
		}
		if !look(one).same(look(two)) {
			t.Fatalf("%q, %q: %v alone, %v beside another", code, picks, look(one), look(two))
		}
	}
}

// P1: no text, and no number, makes a call panic.
func FuzzCalls(f *testing.F) {
	for _, s := range []string{"", "thread;", "thread;halt", "thread;mov r0 -1;load r1 r0 0;", "thread;store 1 0 5;fence;jz 0 0;", "thread;div r0 1 0;thread;mod r1 r0 0;", "thread;cas r0 1 0 0 1;xadd r0 1 0 1;out r0;trap 9;", "\xff;", "thread;jmp 4000;"} {
		f.Add(lines(s), 0, 0)
		f.Add(lines(s), -1, 256)
	}
	f.Fuzz(func(t *testing.T, code string, thread, at int) {
		m, err := commits.Load(code)
		if e, line := api.Tell(err); (m == nil) != (err != nil) || e < api.OK || e > api.ErrLimit || line < 0 || (line == 0) != (e == api.OK || e == api.ErrLong) {
			t.Fatalf("Load: machine %v, %v", m != nil, err)
		}
		for _, k := range []int{thread, 0, 1, 2} {
			for range 30 {
				m.Step(k)
			}
			m.Out(k)
			if s, w := m.State(k), m.Waiting(k); s < api.Runs || s > api.Halted || w < 0 || w > api.MaxStore {
				t.Fatalf("thread %d: state %d, %d wait", k, s, w)
			}
			m.Flush(k)
		}
		m.Peek(at)
	})
}
