package commits_test

import (
	"math/rand"
	"slices"
	"strconv"
	"strings"
	"testing"

	"commits/api"
	"commits/commits"
)

// explorer goes through all that the model of a program's code may come to, whatever is picked, and holds it against P9 and P10.
type explorer struct {
	*explainer
	commonCells
	speaks
	been  map[[2]uint64]bool
	picks []string // that led to where the explorer is
	room  int      // how many points are gone to
	most  int      // clocks move on without end if blocks begin anew without end: how many xadds are gone through
	fault string   // the first one
	alone [3]int   // how often a thread went on alone, by each point of P10
}

// reached is what the explorer has come to.
type reached struct {
	model
	stepped [api.MaxThreads]bool
	orders  []*stand // that explain it
	xadds   int
}

// commonCells tells of which cells more than one thread may speak.
type commonCells [api.Cells]bool

// commonOf takes it that a register in an address is one of the numbers from 0 to 7.
func commonOf(m *model) commonCells {
	var common commonCells
	var owner [api.Cells]int
	for k, list := range m.ins {
		for _, in := range list {
			for _, at := range addresses(in) {
				common[at] = common[at] || owner[at] != 0 && owner[at] != k+1
				owner[at] = k + 1
			}
		}
	}
	return common
}

func addresses(in modelIns) []int64 {
	w := in.words
	switch in.name {
	case "load", "cas", "xadd":
		w = w[1:]
	case "store":
	default:
		return nil
	}
	var all []int64
	for i := range int64(api.Cells) {
		if w[0].register < 0 && i == w[0].number+w[1].number || w[0].register >= 0 && i >= w[1].number && i < w[1].number+8 {
			all = append(all, i)
		}
	}
	return all
}

// isOwn tells whether a thread's next instruction does nothing that another thread could see, or that could be seen from outside. Such ones are done at once: when they are done makes no difference.
func (c *commonCells) isOwn(m *model, k int) bool {
	if m.state[k] != api.Runs || m.place[k] >= len(m.ins[k]) {
		return false
	}
	in := m.ins[k][m.place[k]]
	switch in.name {
	case "fence", "out", "trap", "halt", "div", "mod", "cas", "xadd":
		return false
	case "load":
		return !c[m.value(k, in.words[1])+m.value(k, in.words[2])]
	case "store":
		return m.waiting[k] < api.MaxStore && !c[m.value(k, in.words[0])+m.value(k, in.words[1])]
	}
	return true
}

// settle does all that no other thread sees, flushes too.
func (c *commonCells) settle(m *model, k int) {
	for range 100000 {
		switch {
		case m.waiting[k] > 0 && !c[m.stores[k][0][0]]:
			m.flush(k)
		case c.isOwn(m, k):
			m.step(k)
		default:
			return
		}
	}
}

// speaks tells of each thread's text which shared variables it speaks of, and whether there is a put in it.
type speaks struct {
	of   [api.MaxThreads][]string
	puts [api.MaxThreads]bool
}

func speaksOf(s string) speaks {
	var all speaks
	k := -1
	for _, line := range strings.Split(strings.TrimSuffix(s, "\n"), "\n") {
		w := strings.Fields(line)
		switch w[0] {
		case "thread":
			k++
		case "get":
			all.of[k] = append(all.of[k], w[2])
		case "put":
			all.of[k] = append(all.of[k], w[1])
			all.puts[k] = true
		}
	}
	return all
}

// goesOn tells which points of P10 promise that thread k, alone, comes to its end.
func (s *speaks) goesOn(k int, stepped, ended [api.MaxThreads]bool) [3]bool {
	points := [3]bool{true, true, true}
	for j := range api.MaxThreads {
		if j == k {
			continue
		}
		points[0] = points[0] && (!stepped[j] || ended[j])
		points[1] = points[1] && !slices.ContainsFunc(s.of[j], func(name string) bool { return slices.Contains(s.of[k], name) })
		points[2] = points[2] && (!stepped[j] || !s.puts[j])
	}
	return points
}

func (x *explorer) visit(p *reached) {
	if x.fault != "" || p.xadds > x.most || len(x.been) == x.room || x.beenAt(p) {
		return
	}
	if len(x.picks) == 5000 {
		x.fail(p, "something new comes without end")
		return
	}
	for k := range p.threads {
		x.goOn(p, k)
	}
	for k := range p.threads {
		if p.state[k] == api.Runs {
			x.follow(p, k, strconv.Itoa(k))
		}
		if p.waiting[k] > 0 {
			x.follow(p, k, "f"+strconv.Itoa(k))
		}
	}
}

// follow does one pick: a thread's step or, if its name is longer, a flush.
func (x *explorer) follow(p *reached, k int, pick string) {
	x.picks = append(x.picks, pick)
	q := *p
	if len(pick) > 1 {
		q.flush(k)
	} else {
		if !q.stepped[k] {
			q.orders = firstStep(q.orders, k, q.ended())
		}
		q.stepped[k] = true
		x.settle(&q.model, k)
		if at := q.place[k]; at < len(q.ins[k]) && q.ins[k][at].name == "xadd" {
			q.xadds++
		}
		q.step(k)
	}
	x.settle(&q.model, k)
	if q.state[k] != p.state[k] || len(q.out[k]) != len(p.out[k]) {
		q.orders = x.moment(q.orders, told{q.out, q.state})
	}
	if len(q.orders) == 0 {
		x.fail(&q, "P9: there is no order")
		return
	}
	x.visit(&q)
	x.picks = x.picks[:len(x.picks)-1]
}

func (x *explorer) fail(p *reached, what string) {
	if x.fault == "" {
		x.fault = what + " behind " + strings.Join(x.picks, " ") + told{p.out, p.state}.String()
	}
}

// ended tells which threads are at their ends, and nothing of them waits.
func (m *model) ended() [api.MaxThreads]bool {
	var ended [api.MaxThreads]bool
	for k := range ended {
		ended[k] = m.state[k] != api.Runs && m.waiting[k] == 0
	}
	return ended
}

// goOn lets a thread step alone, if P10 promises that it comes to its end so.
func (x *explorer) goOn(p *reached, k int) {
	points := x.goesOn(k, p.stepped, p.ended())
	if p.state[k] != api.Runs || points == [3]bool{} {
		return
	}
	for i, holds := range points {
		x.alone[i] += int(truth(holds))
	}
	m := p.model
	for range 200000 {
		if m.state[k] != api.Runs {
			return
		}
		m.step(k)
		for m.waiting[k] > 0 {
			m.flush(k)
		}
	}
	x.fail(p, "P10: thread "+strconv.Itoa(k)+" does not come to its end alone")
}

// beenAt tells whether the explorer has been at the same point before.
func (x *explorer) beenAt(p *reached) bool {
	h := [2]uint64{14695981039346656037, 1}
	add := func(v int64) {
		h[0] = (h[0] ^ uint64(v)) * 1099511628211
		h[0] ^= h[0] >> 29
		h[1] = (h[1] + uint64(v) + 0x9e3779b97f4a7c15) * 0xbf58476d1ce4e5b9
		h[1] ^= h[1] >> 31
	}
	for k := range p.threads {
		add(int64(p.place[k]))
		add(int64(p.state[k])<<8 | truth(p.stepped[k])<<4 | int64(p.waiting[k]))
		for _, v := range p.regs[k] {
			add(v)
		}
		for _, s := range p.stores[k] {
			add(s[0])
			add(s[1])
		}
		add(int64(len(p.out[k])))
		for _, v := range p.out[k] {
			add(v)
		}
	}
	for _, v := range p.memory {
		add(v)
	}
	add(int64(len(p.orders)))
	numbers := make([]int, 0, 100)
	for _, s := range p.orders {
		numbers = append(numbers, s.named)
	}
	slices.Sort(numbers)
	for _, n := range numbers {
		add(int64(n))
	}
	if x.been[h] {
		return true
	}
	x.been[h] = true
	return false
}

// explored goes through all that a code may come to that is to be a program's.
func explored(s, code string, most, room int) *explorer {
	m := newModel(code)
	x := &explorer{explainer: newExplainer(s), commonCells: commonOf(m), speaks: speaksOf(s), been: map[[2]uint64]bool{}, most: most, room: room}
	x.visit(&reached{model: *m, orders: []*stand{x.first}})
	return x
}

func explore(t *testing.T, s string, most, room int) *explorer {
	t.Helper()
	code, err := commits.Compile(s)
	if err != nil {
		t.Fatalf("%q: %v", s, err)
	}
	x := explored(s, code, most, room)
	if x.fault != "" {
		t.Errorf("%q: %s", s, x.fault)
	}
	return x
}

// TestExplorer: the explorer, by which others are tested, finds what is wrong with codes that were written by hand, and nothing where nothing is.
func TestExplorer(t *testing.T) {
	const (
		count = "shared x;thread;atomic;get v x;set v v + 1;put x v;out v;end;thread;atomic;get v x;set v v + 1;put x v;out v;end;"
		flags = "shared x;shared y;thread;atomic;put x 1;end;atomic;get v y;out v;end;thread;atomic;put y 1;end;atomic;get v x;out v;end;"
		apart = "shared x;shared y;thread;atomic;put x 1;end;thread;atomic;put y 1;end;"
		reads = "shared x;thread;atomic;get v x;out v;end;thread;atomic;put x 1;end;"
		other = "shared x;thread;out 1;atomic;get v x;out v;end;thread;atomic;put x 1;end;"
		grab  = "thread;cas r0 9 0 0 1;jz r0 0;"
	)
	for _, c := range []struct{ s, code, fault string }{
		{count, "thread;xadd r0 0 0 1;add r0 r0 1;out r0;thread;xadd r0 0 0 1;add r0 r0 1;out r0;", ""}, {count, "thread;load r0 0 0;add r0 r0 1;store 0 0 r0;out r0;thread;load r0 0 0;add r0 r0 1;store 0 0 r0;out r0;", "P9"}, {count, grab + "load r0 0 0;add r0 r0 1;store 0 0 r0;store 9 0 0;out r0;" + grab + "load r0 0 0;add r0 r0 1;store 0 0 r0;store 9 0 0;out r0;", ""}, {count, grab + "load r0 0 0;add r0 r0 1;store 9 0 0;store 0 0 r0;out r0;" + grab + "load r0 0 0;add r0 r0 1;store 9 0 0;store 0 0 r0;out r0;", "P9"},
		{flags, "thread;store 1 0 1;fence;load r0 2 0;out r0;thread;store 2 0 1;fence;load r0 1 0;out r0;", ""}, {flags, "thread;store 1 0 1;load r0 2 0;out r0;thread;store 2 0 1;load r0 1 0;out r0;", "P9"},
		{apart, "thread;store 1 0 1;thread;store 2 0 1;", ""}, {apart, "thread;trap 1;thread;store 2 0 1;", "P9"}, {apart, "thread;store 1 0 1;thread;jmp 0;", "P10"}, {apart, grab + "store 1 0 1;store 9 0 0;" + grab + "store 2 0 1;store 9 0 0;", "P10"},
		{reads, "thread;load r0 1 0;out r0;thread;store 1 0 1;", ""}, {reads, grab + "load r0 1 0;store 9 0 0;out r0;" + grab + "store 1 0 1;store 9 0 0;", "P10"}, {reads, "thread;load r0 1 0;out r0;thread;", "P9"}, {reads, "thread;out 0;thread;store 1 0 1;", "P9"}, {other, "thread;out 1;load r0 1 0;out r0;thread;store 1 0 1;fence;", ""}, {other, "thread;load r0 1 0;out 1;out r0;thread;store 1 0 1;fence;", "P9"},
	} {
		if x := explored(lines(c.s), lines(c.code), 8, 100000); (c.fault == "") != (x.fault == "") || !strings.HasPrefix(x.fault, c.fault+":") && c.fault != "" {
			t.Errorf("%q, %q: %q, want %q", c.s, c.code, x.fault, c.fault)
		}
	}
}

// P9, P10: small programs, whatever is picked.
func TestEveryPick(t *testing.T) {
	const count = "thread;atomic;get v c;set v v + 1;put c v;out v;end;"
	for _, s := range []string{
		"shared c;" + count + count + count, "shared c;thread;loop 2;atomic;get v c;set v v + 1;put c v;out v;end;end;" + count, "shared c;thread;set a 1;atomic;set a a * 2;out a;get v c;set v v + a;put c v;out v;end;out a;thread;set b 5;atomic;get v c;set b b + v;put c b;end;out b;",
		"shared x;shared y;thread;set z 9;set a 1;atomic;get z x;set a a + 1;get b y;out a;end;out a;thread;atomic;put x 1;put y 1;end;", "shared x;shared y;thread;set z 9;set a 1;set b 2;atomic;out a;out b;get a x;set b 3;get z y;put y b;out z;end;out a;thread;atomic;put x 1;put y 1;end;",
		"shared x;shared y;thread;atomic;get v x;put y 1;out v;end;thread;atomic;get v y;put x 1;out v;end;",
		"shared x;shared y;thread;atomic;get v x;set v v + 1;put x v;put y v;end;thread;atomic;get v x;get w y;set u v == w;set u 7 / u;out v;end;", "shared x;shared y;shared t 2;thread;loop 2;atomic;get v x;set v v + 1;put x v;put y v;end;end;thread;atomic;get v x;get w y;set v v - w;get v t at v;put t 3 at v;out v;end;", "shared x;shared t 2;thread;atomic;put x 1;put t 5 at 1;end;atomic;put x 0;put t 6;end;thread;atomic;get v x;get v t at v;out v;end;",
		"shared x;shared y;thread;atomic;put x 1;put y 1;end;thread;atomic;put y 2;put x 2;end;thread;atomic;get v y;get w x;out v;out w;end;", "shared x;shared y;shared z;thread;atomic;put x 1;put y 1;end;atomic;put x 2;put y 2;end;atomic;put z 1;end;thread;atomic;get v y;get w x;out v;out w;end;thread;atomic;get v z;put x 9;out v;end;", "shared x;shared y;thread;atomic;put x 1;end;atomic;get v y;out v;end;thread;atomic;put y 1;end;atomic;get v x;out v;end;", "shared x;shared y;thread;atomic;put x 1;end;atomic;put y 1;end;thread;atomic;get v y;out v;end;atomic;get v x;out v;end;",
		"shared x;thread;atomic;put x 1;end;atomic;put x 0;end;thread;out 5;atomic;out 6;get v x;put x 7;set v 1 / v;out v;end;out 7;", "shared x;shared y;thread;atomic;get v x;get w y;set w w + 1;put y w;put x w;get v x;out v;end;thread;atomic;get w y;put x 5;get v x;out v;out w;end;", "shared x;thread;set a 0;atomic;loop 2;get v x;set v v + 1;put x v;set a a + 1;end;out a;out v;end;out a;thread;atomic;get v x;put x 10;out v;end;",
		"shared x;shared y;thread;atomic;get v x;if v;put y v;end;out v;end;thread;atomic;put x 1;end;atomic;get v y;put x v;out v;end;", "shared t 3;thread;set i 0;atomic;loop 2;get v t at i;set i i + 1;put t i at i;end;out v;end;thread;atomic;get v t at 2;put t 7;get w t at 1;out v;out w;end;", "shared t 2;thread;set v 1;atomic;get v t at v;get v t at v;out v;end;thread;atomic;put t 1 at 1;put t 1;end;atomic;put t 0;end;",
	} {
		if x := explore(t, lines(s), 8, 300000); len(x.been) == x.room {
			t.Errorf("%q: there is too much to come to", s)
		}
	}
}

// P10: wherever the others stand a thread comes to its end alone, if it shares nothing with them, or if they only read, or if they have ended.
func TestEveryPlace(t *testing.T) {
	for _, c := range []struct {
		s     string
		point int
	}{
		{"shared x;shared y;shared z 2;thread;loop 2;atomic;get v x;set v v + 1;put x v;out v;end;end;thread;atomic;get v y;put y 5;out v;end;thread;atomic;put z 1;get v z at 1;put z v;end;", 2}, {"shared x;shared y;thread;loop 3;atomic;get v x;set v v + 1;put x v;end;end;thread;loop 3;atomic;get v y;set v v + 1;put y v;end;end;", 2}, {"shared x 2;shared y 2;thread;atomic;get v x;get v x at 1;out v;end;thread;atomic;put y 5;put y 6 at 1;end;atomic;get v y;out v;end;", 2},
		{"shared x;shared y;thread;atomic;get v x;get w y;out v;out w;end;thread;loop 2;atomic;get v y;set v v + 1;put y v;put x v;end;end;thread;atomic;get v y;out v;end;", 3}, {"shared x;shared y;thread;loop 3;atomic;get v x;get v y;end;end;thread;loop 3;atomic;get v y;set v v + 1;put x v;put y v;end;end;", 3}, {"shared x;thread;atomic;get v x;end;thread;atomic;get v x;get v x;set v 1 / v;end;thread;atomic;get v x;put x 1;set v 1 / v;end;", 3},
		{"shared x;shared y;thread;atomic;get v x;put y 1;out v;end;thread;atomic;get v y;put x 1;out v;end;", 1}, {"shared x;thread;atomic;put x 1;end;thread;atomic;get v x;put x 2;set v 1 / v;end;thread;atomic;get v x;out v;end;", 1},
	} {
		if x := explore(t, lines(c.s), 8, 100000); x.alone[c.point-1] < 50 {
			t.Errorf("%q: by point %d of P10 a thread went on alone %d times", c.s, c.point, x.alone[c.point-1])
		}
	}
}

// P9, P10: small programs at random, and much of what may be picked.
func TestManyPicks(t *testing.T) {
	r := rand.New(rand.NewSource(9))
	for range 150 {
		explore(t, randomMeeting(r), 6, 5000)
	}
}
