// Package coder: the code of a program.
package coder

import (
	"strconv"
	"strings"

	"commits/api"
	"commits/program"
)

// coder writes the code of one thread.
type coder struct {
	listing
	shared map[string]program.Variable
	locals map[string]int
	thread int
	loops  int      // within each other, where the coder is
	block  *block   // where the coder is; nil: in none
	traps  []func() // each lets a leap of a wrong cell lead to the trap
}

// Code is the code of a program (P7).
func Code(p *program.Program) string {
	var b strings.Builder
	for i, t := range p.Threads {
		c := &coder{shared: p.Shared, locals: t.Locals, thread: i}
		c.stmts(t.Stmts)
		c.end()
		b.WriteString("thread\n" + c.text())
	}
	return b.String()
}

func (c *coder) stmts(stmts []program.Stmt) {
	for _, s := range stmts {
		c.stmt(s)
	}
}

func (c *coder) stmt(s program.Stmt) {
	switch s := s.(type) {
	case program.Set:
		c.add("mov", c.local(s.To), c.value(s.From))
	case program.Operate:
		c.add(s.Op.Word(), c.local(s.To), c.value(s.A), c.value(s.B))
	case program.Get:
		c.get(s)
	case program.Put:
		c.put(s)
	case program.Out:
		c.out(s)
	case *program.Atomic:
		c.atomic(s)
	case *program.If:
		behind := c.leap("jz", c.value(s.On))
		c.stmts(s.Stmts)
		behind()
	case *program.Loop:
		c.loop(s)
	}
}

func (c *coder) loop(s *program.Loop) {
	left := c.own(roundsAt + c.loops)
	c.loops++
	c.add("store", "0", left, strconv.Itoa(s.Times))
	again := c.place()
	c.stmts(s.Stmts)
	c.add("load", scratch, "0", left)
	c.add("sub", scratch, scratch, "1")
	c.add("store", "0", left, scratch)
	behind := c.leap("jz", scratch)
	c.back(again)
	behind()
	c.loops--
}

// end lays the one trap of all wrong cells, if there may be some, behind the thread's end.
func (c *coder) end() {
	c.add("halt")
	if len(c.traps) == 0 {
		return
	}
	for _, here := range c.traps {
		here()
	}
	c.add("trap", strconv.Itoa(api.TrapIndex))
}

func (c *coder) local(name string) string { return register(c.locals[name]) }

func (c *coder) value(v program.Value) string {
	if v.Name != "" {
		return c.local(v.Name)
	}
	return strconv.FormatInt(v.Number, 10)
}
