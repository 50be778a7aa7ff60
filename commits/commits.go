// Package commits: programs with atomic blocks, and the machine that runs their code: see DOC.md.
package commits

import (
	"commits/api"
	"commits/coder"
	"commits/codes"
	"commits/machine"
	"commits/program"
)

// Machine is a code that runs.
type Machine struct {
	memory  machine.Memory
	threads []*machine.Thread
}

// Compile makes the code of a program (P7).
func Compile(s string) (string, error) {
	p, err := program.Read(s)
	if err != nil {
		return "", err
	}
	return coder.Code(p), nil
}

// Load makes the machine of a code (P3).
func Load(code string) (*Machine, error) {
	threads, err := codes.Read(code)
	if err != nil {
		return nil, err
	}
	m := &Machine{}
	for _, ins := range threads {
		m.threads = append(m.threads, machine.NewThread(ins, &m.memory))
	}
	return m, nil
}

// Step lets a thread do its next instruction (P4).
func (m *Machine) Step(t int) {
	if m.has(t) {
		m.threads[t].Step()
	}
}

// Flush stores what waits longest of a thread (P4).
func (m *Machine) Flush(t int) {
	if m.has(t) {
		m.threads[t].Flush()
	}
}

// Out tells what a thread has given out (P5).
func (m *Machine) Out(t int) []int64 {
	if !m.has(t) {
		return nil
	}
	return m.threads[t].Out()
}

// State tells whether a thread runs (P5).
func (m *Machine) State(t int) int {
	if !m.has(t) {
		return api.Halted
	}
	return m.threads[t].State()
}

// Waiting tells how many stores of a thread wait (P5).
func (m *Machine) Waiting(t int) int {
	if !m.has(t) {
		return 0
	}
	return m.threads[t].Waiting()
}

// Peek tells what the memory has in a cell (P5).
func (m *Machine) Peek(at int) int64 {
	if m == nil {
		return 0
	}
	return m.memory.Peek(at)
}

// has tells whether there is a thread t. A machine that is nil (a Load that failed gives one) has none: no call panics.
func (m *Machine) has(t int) bool { return m != nil && t >= 0 && t < len(m.threads) }
