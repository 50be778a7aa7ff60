package commits_test

import (
	"fmt"
	"maps"
	"slices"
	"testing"

	"commits/api"
)

// stand is where a program stands when the blocks of an order have been done, each thread up to its next block.
type stand struct {
	*interpreted
	ahead [api.MaxThreads]int                  // how much each thread gave out ahead of its last block of the order
	over  [api.MaxThreads][api.MaxThreads]bool // whether the first thread's first block stands ahead of one of the second's
	begun [api.MaxThreads]bool                 // whether the order has a block of the thread
	more  [api.MaxThreads]*stand               // with a block more of a thread, as far as that was asked for
	named int                                  // a number that no other one has
}

// explainer looks for the orders of whole blocks that P9 speaks of.
type explainer struct {
	first *stand
	all   map[string]*stand // orders that come to the same are one
}

func newExplainer(s string) *explainer {
	e := &explainer{all: map[string]*stand{}}
	p := interpret(s)
	for _, d := range p.threads {
		p.upToBlock(d)
	}
	e.first = &stand{interpreted: p}
	return e
}

// upToBlock does a thread up to its next block, or its end.
func (p *interpreted) upToBlock(d *doing) {
	for d.state == api.Runs && (d.place == len(d.stmts) || d.stmts[d.place].words[0] != "atomic") {
		p.next(d)
	}
}

func (p *interpreted) clone() *interpreted {
	q := &interpreted{sizes: p.sizes, cells: maps.Clone(p.cells)}
	for _, d := range p.threads {
		c := *d
		c.locals, c.out = maps.Clone(d.locals), slices.Clone(d.out)
		q.threads = append(q.threads, &c)
	}
	return q
}

// with is where the program stands when that thread's next block has been done, too.
func (e *explainer) with(s *stand, k int) *stand {
	if s.more[k] != nil {
		return s.more[k]
	}
	n := &stand{interpreted: s.clone(), ahead: s.ahead, over: s.over, begun: s.begun}
	for j, d := range s.threads {
		n.over[k][j] = s.over[k][j] || !s.begun[k] && j != k && d.state == api.Runs
	}
	n.begun[k] = true
	d := n.threads[k]
	n.ahead[k] = len(d.out)
	n.next(d)
	n.upToBlock(d)
	key := fmt.Sprint(n.cells, n.ahead, n.over)
	for _, d := range n.threads {
		key += fmt.Sprint(d.place, d.locals, d.out, d.state)
	}
	if e.all[key] == nil {
		n.named = len(e.all) + 1
		e.all[key] = n
	}
	s.more[k] = e.all[key]
	return s.more[k]
}

// told is what a machine tells of its threads.
type told struct {
	out   [api.MaxThreads][]int64
	state [api.MaxThreads]int
}

func (m told) String() string { return fmt.Sprintf(": %v, states %v", m.out, m.state) }

// explains tells whether P9's words on one moment hold of an order.
func (s *stand) explains(m told) bool {
	for k, d := range s.threads {
		given := m.out[k]
		if len(given) > len(d.out) || !slices.Equal(given, d.out[:len(given)]) {
			return false
		}
		if m.state[k] == api.Runs && len(given) < s.ahead[k] {
			return false
		}
		if m.state[k] != api.Runs && (m.state[k] != d.state || len(given) != len(d.out)) {
			return false
		}
	}
	return true
}

// tooFar tells that no order that begins with this one explains the moment.
func (s *stand) tooFar(m told) bool {
	for k, d := range s.threads {
		n := min(len(m.out[k]), len(d.out))
		if len(m.out[k]) < s.ahead[k] || !slices.Equal(m.out[k][:n], d.out[:n]) {
			return true
		}
	}
	return false
}

// firstStep leaves those orders in which, as a thread does its first step, all blocks of threads that have ended stand ahead of its own.
func firstStep(orders []*stand, k int, ended [api.MaxThreads]bool) []*stand {
	var left []*stand
	for _, s := range orders {
		if !slices.ContainsFunc([]int{0, 1, 2}, func(j int) bool { return ended[j] && s.over[k][j] }) {
			left = append(left, s)
		}
	}
	return left
}

// moment is where the orders come to that explain this moment and begin with one of an earlier moment: none, if P9 does not hold.
func (e *explainer) moment(earlier []*stand, m told) []*stand {
	var found []*stand
	seen := map[*stand]bool{}
	todo := slices.Clone(earlier)
	for len(todo) > 0 {
		s := todo[len(todo)-1]
		todo = todo[:len(todo)-1]
		if seen[s] || s.tooFar(m) {
			continue
		}
		seen[s] = true
		if s.explains(m) {
			found = append(found, s)
		}
		for k, d := range s.threads {
			if d.state == api.Runs {
				todo = append(todo, e.with(s, k))
			}
		}
	}
	return found
}

// TestExplainer: what the explainer, by which others are tested, lets stand and what it does not.
func TestExplainer(t *testing.T) {
	const (
		count = "shared x;thread;atomic;get v x;set v v + 1;put x v;out v;end;out 9;thread;atomic;get v x;set v v + 1;put x v;out v;end;"
		skew  = "shared x;shared y;thread;atomic;get v x;put y 1;out v;end;thread;atomic;get v y;put x 1;out v;end;"
		pair  = "shared x;shared y;thread;atomic;put x 1;put y 1;end;atomic;put x 2;put y 2;end;thread;atomic;get v x;get w y;out v;out w;end;atomic;get v x;out v;end;"
		trap  = "shared x;thread;atomic;put x 1;end;thread;out 5;atomic;out 6;get v x;set v 1 / v;out v;end;out 7;"
	)
	type outs = [api.MaxThreads][]int64
	type states = [api.MaxThreads]int
	for _, c := range []struct {
		s       string
		moments []told
		holds   bool
	}{
		{count, []told{{}}, true}, {count, []told{{outs{{1}}, states{}}}, true}, {count, []told{{outs{{2}}, states{}}}, true}, {count, []told{{outs{{3}}, states{}}}, false}, {count, []told{{outs{{1}, {2}}, states{}}}, true}, {count, []told{{outs{{1}, {1}}, states{}}}, false}, {count, []told{{outs{{2}, {2}}, states{}}}, false},
		{count, []told{{outs{{1, 9}}, states{}}}, true}, {count, []told{{outs{{1, 9}}, states{10}}}, true}, {count, []told{{outs{{1}}, states{10}}}, false}, {count, []told{{outs{{}}, states{10}}}, false}, {count, []told{{outs{{9}}, states{}}}, false}, {count, []told{{outs{{1, 9}}, states{1}}}, false}, {count, []told{{outs{{1, 9, 9}}, states{}}}, false},
		{count, []told{{outs{{1}}, states{}}, {outs{{1}, {2}}, states{}}}, true}, {count, []told{{outs{{1, 9}, {}}, states{10}}, {outs{{1, 9}, {2}}, states{10, 10}}}, true}, {count, []told{{outs{{2}}, states{}}, {outs{{2}, {1}}, states{}}}, true}, {count, []told{{outs{{1}}, states{}}, {outs{{2}}, states{}}}, false},
		{skew, []told{{outs{{0}, {1}}, states{}}}, true}, {skew, []told{{outs{{1}, {0}}, states{10, 10}}}, true}, {skew, []told{{outs{{0}, {0}}, states{}}}, false}, {skew, []told{{outs{{1}, {1}}, states{}}}, false},
		{pair, []told{{outs{nil, {0, 0}}, states{}}}, true}, {pair, []told{{outs{nil, {1, 1, 2}}, states{}}}, true}, {pair, []told{{outs{nil, {2, 2}}, states{10}}}, true}, {pair, []told{{outs{nil, {1, 0}}, states{}}}, false}, {pair, []told{{outs{nil, {1, 2}}, states{}}}, false}, {pair, []told{{outs{nil, {2, 2, 1}}, states{}}}, false}, {pair, []told{{outs{}, states{10}}, {outs{nil, {1, 1}}, states{10}}}, true}, {pair, []told{{outs{nil, {0, 0}}, states{10}}, {outs{nil, {0, 0, 1}}, states{10}}}, true}, {pair, []told{{outs{nil, {0}}, states{10}}, {outs{nil, {0, 0, 1}}, states{10}}}, false}, {pair, []told{{outs{nil, {1}}, states{}}, {outs{nil, {1, 1, 1}}, states{10, 10}}}, true},
		{trap, []told{{outs{nil, {5}}, states{0, 1}}}, true}, {trap, []told{{outs{nil, {5}}, states{10, 1}}}, true}, {trap, []told{{outs{nil, {5, 6, 1, 7}}, states{10, 10}}}, true}, {trap, []told{{outs{nil, {5, 6}}, states{0, 1}}}, false}, {trap, []told{{outs{}, states{0, 1}}}, false}, {trap, []told{{outs{nil, {5, 6, 0}}, states{}}}, false}, {trap, []told{{outs{nil, {5}}, states{10}}, {outs{nil, {5}}, states{10, 1}}}, true}, {trap, []told{{outs{}, states{10}}, {outs{nil, {5}}, states{10, 1}}}, false},
	} {
		e := newExplainer(lines(c.s))
		may := []*stand{e.first}
		for _, m := range c.moments {
			may = e.moment(may, m)
		}
		if (len(may) > 0) != c.holds {
			t.Errorf("%q, %v: explained: %v", c.s, c.moments, !c.holds)
		}
	}
}

// TestFirstSteps: of orders that explain the same those are left in which a thread that had ended stands ahead.
func TestFirstSteps(t *testing.T) {
	e := newExplainer(lines("shared x;thread;atomic;put x 1;end;atomic;put x 2;end;thread;atomic;get v x;out v;end;"))
	for _, c := range []struct {
		ended bool
		out   int64
		holds bool
	}{{false, 0, true}, {false, 1, true}, {false, 2, true}, {true, 0, false}, {true, 1, false}, {true, 2, true}} {
		may := e.moment([]*stand{e.first}, told{state: [api.MaxThreads]int{api.Halted}})
		may = firstStep(may, 1, [api.MaxThreads]bool{c.ended, false, true})
		may = e.moment(may, told{[api.MaxThreads][]int64{nil, {c.out}}, [api.MaxThreads]int{api.Halted}})
		if (len(may) > 0) != c.holds {
			t.Errorf("%v: explained: %v", c, !c.holds)
		}
	}
}
