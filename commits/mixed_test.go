package commits_test

import (
	"math/rand"
	"slices"
	"strconv"
	"strings"
	"testing"

	"commits/api"
	"commits/commits"
)

// watched is a machine of a program's code, with the orders that explain what it told up to now.
type watched struct {
	*commits.Machine
	*explainer
	told
	threads int
	stepped [api.MaxThreads]bool
	orders  []*stand
	picks   strings.Builder
}

func watch(t *testing.T, s string, e *explainer) *watched {
	t.Helper()
	return &watched{Machine: made(t, s), explainer: e, threads: len(e.first.threads), orders: []*stand{e.first}}
}

// step lets a thread do a step; false: what is told then has no order that explains it.
func (w *watched) step(k int) bool {
	if !w.stepped[k] {
		w.stepped[k] = true
		w.orders = firstStep(w.orders, k, w.ended())
	}
	w.picks.WriteByte('0' + byte(k))
	w.Step(k)
	if out := w.Out(k); len(out) != len(w.out[k]) || w.State(k) != w.state[k] {
		w.out[k], w.state[k] = out, w.State(k)
		w.orders = w.moment(w.orders, w.told)
	}
	return len(w.orders) > 0
}

func (w *watched) ended() [api.MaxThreads]bool {
	var ended [api.MaxThreads]bool
	for k := range ended {
		ended[k] = w.State(k) != api.Runs && w.Waiting(k) == 0
	}
	return ended
}

func (w *watched) flush(k int) {
	w.picks.WriteString("f" + strconv.Itoa(k))
	w.Flush(k)
}

// mixed lets the threads that may move do that many picks: now and then the one thread for long, now and then all of them in turn, with few flushes or many.
func (w *watched) mixed(r *rand.Rand, n int, may ...int) bool {
	long, often := 1+r.Intn(60), r.Intn(4)
	for range n {
		k := may[r.Intn(len(may))]
		for range 1 + r.Intn(long) {
			if !w.step(k) {
				return false
			}
			if r.Intn(4) < often {
				w.flush(may[r.Intn(len(may))])
			}
		}
	}
	return true
}

// inTurn lets the threads come to their ends one after the other. One that waits for another's locks does not, at first.
func (w *watched) inTurn(r *rand.Rand) bool {
	for range 3 {
		for _, k := range r.Perm(w.threads) {
			for n := 0; n < 2000 && w.State(k) == api.Runs; n++ {
				if !w.step(k) {
					return false
				}
			}
			flushAll(w.Machine, k)
		}
	}
	return true
}

// checkMixed lets a program be done with its threads' steps mixed, and then up to their ends; false: these were not come to.
func checkMixed(t *testing.T, r *rand.Rand, s string, e *explainer) bool {
	t.Helper()
	w := watch(t, s, e)
	all := []int{0, 1, 2}[:w.threads]
	if !w.mixed(r, r.Intn(80), all...) || !w.inTurn(r) {
		t.Fatalf("%q: there is no order behind %s%v", s, w.picks.String(), w.told)
	}
	return !runs(w.Machine, w.threads, -1)
}

// P9: programs of three threads with up to three blocks.
func TestMixed(t *testing.T) {
	const (
		count = "thread;loop 3;atomic;get v c;set v v + 1;put c v;out v;end;end;"
		pass  = "thread;loop 3;atomic;get v x;get w y;put x w;put y v;out v;out w;end;end;"
	)
	r := rand.New(rand.NewSource(10))
	for _, s := range []string{
		"shared c;" + count + count + count, "shared x;shared y;thread;atomic;put x 1;put y 2;end;out 3;" + pass + pass, "shared x;shared y;shared z;thread;loop 3;atomic;get v x;set v v + 1;put y v;out v;end;end;thread;loop 3;atomic;get v y;set v v + 1;put z v;out v;end;end;thread;loop 3;atomic;get v z;set v v + 1;put x v;out v;end;end;",
		"shared x;shared y;shared t 2;thread;loop 3;atomic;get v x;set v v + 1;put x v;put y v;end;end;thread;loop 3;atomic;get v x;get w y;set u v == w;set u 7 / u;set w w - v;get u t at w;put t v at w;out u;end;end;thread;loop 3;atomic;get w y;get v x;set u v == w;set u 7 % u;set v v - w;out v;end;end;", "shared t 6;thread;set i 0;loop 3;atomic;get v t at i;set i i + 1;put t i at i;set v v * 8;put t v;end;out v;end;thread;set i 3;loop 3;atomic;get v t at i;put t v at 5;set i i - 1;out v;end;end;thread;set i 5;loop 3;atomic;loop 2;get v t at i;out v;set i i - 1;end;end;end;",
		"shared x;thread;set a 1;loop 3;atomic;set a a * 2;out a;get v x;out v;put x a;end;out a;end;thread;set a 1;loop 3;atomic;get v x;set a a + v;if a;put x a;end;end;out a;end;", "shared x;thread;set a 3;loop 3;atomic;get v x;set a a - 1;put x a;out a;set v 6 / v;out v;end;end;out 9;thread;loop 3;atomic;get v x;put x 0;set v 6 / v;out v;end;end;thread;loop 3;atomic;get v x;set v v + 1;put x v;out v;end;end;", "shared t 3;thread;loop 3;atomic;get v t;get w t at v;out w;set v v + 1;put t v;end;end;thread;loop 3;atomic;get v t;get w t at v;put t v at v;out w;end;end;",
	} {
		e, ended := newExplainer(lines(s)), 0
		for range 150 {
			ended += int(truth(checkMixed(t, r, lines(s), e)))
		}
		if ended < 130 {
			t.Errorf("%q: %d times of 150 all threads came to their ends", s, ended)
		}
	}
}

// P9: programs at random.
func TestMixedAtRandom(t *testing.T) {
	r := rand.New(rand.NewSource(11))
	for range 700 {
		for _, s := range []string{randomMeeting(r), randomProgram(r)} {
			e := newExplainer(s)
			for range 4 {
				checkMixed(t, r, s, e)
			}
		}
	}
}

// stepsOf tells how many steps a thread does alone.
func stepsOf(t *testing.T, s string, k int) int {
	m, n := made(t, s), 0
	for ; m.State(k) == api.Runs && n < 200000; n++ {
		m.Step(k)
		flushAll(m, k)
	}
	return n
}

// P10, second and third point: one of the others stands at each of its places, its stores in the memory or not, the third one and the thread itself anywhere.
func TestNobodyWaits(t *testing.T) {
	r := rand.New(rand.NewSource(12))
	for _, c := range []struct {
		s      string
		k      int
		others []int
	}{
		{"shared x;shared y;shared z;thread;loop 3;atomic;get v x;set v v + 1;put x v;out v;end;end;thread;loop 3;atomic;get v y;set v v + 1;put y v;end;end;thread;loop 3;atomic;get v z;put z 5;out v;end;end;", 0, []int{1, 2}},
		{"shared x 2;shared y 2;thread;atomic;put x 1;put x 2 at 1;end;atomic;get v x;out v;end;thread;atomic;get v y;out v;end;atomic;get v y at 1;put y 5;out v;end;", 1, []int{0}},
		{"shared x;shared y;thread;loop 3;atomic;get v x;get w y;out v;end;end;thread;loop 3;atomic;get v y;set v v + 1;put y v;put x v;end;end;thread;loop 3;atomic;get v x;get v y;out v;end;end;", 1, []int{2, 0}},
		{"shared x;thread;loop 3;atomic;get v x;out v;end;end;thread;loop 3;atomic;get v x;set v v + 1;put x v;out v;end;end;thread;loop 3;atomic;put x 1;end;end;", 1, []int{0}},
		{"shared x;thread;loop 3;atomic;get v x;out v;end;end;thread;loop 3;atomic;get v x;out v;end;end;thread;loop 3;atomic;put x 1;end;end;", 1, []int{0}},
	} {
		s := lines(c.s)
		e := newExplainer(s)
		for place := range stepsOf(t, s, c.others[0]) {
			w := watch(t, s, e)
			w.mixed(r, r.Intn(3), append(c.others[1:], c.k)...)
			lately := r.Intn(2) == 0
			for range place {
				w.step(c.others[0])
				if !lately {
					flushAll(w.Machine, c.others[0])
				}
			}
			if !alone(w.Machine, c.k) {
				t.Fatalf("%q: thread %d waits behind %s", c.s, c.k, w.picks.String())
			}
			if w.step(c.k); len(w.orders) == 0 {
				t.Fatalf("%q: there is no order behind %s%v", c.s, w.picks.String(), w.told)
			}
		}
	}
}

// A block waits for nobody who puts other cells than it gets or puts, though it may have got them earlier, or might have: wherever that one stands.
func TestOtherCells(t *testing.T) {
	for _, c := range []struct {
		blocks, other string
		outs          []int64
	}{
		{"set i 1;loop 2;atomic;get v t at i;put x v;out i;end;set i 0;end;", "put t 5 at 1", []int64{1, 0}}, {"set i 0;loop 2;atomic;get v t at i;put x v;out i;end;set i 1;end;", "put t 5", []int64{0, 1}}, {"atomic;get v t;get v t at 1;put x v;out 1;end;atomic;get v t;if v;get v t at 1;put t v at 1;end;put x 5;out v;end;", "put t 5 at 1", []int64{1, 0}},
		{"atomic;put t 0 at 1;put x 0;out 1;end;atomic;get v t;put t v;put x v;out v;end;", "put t 5 at 1", []int64{1, 0}}, {"atomic;put t 0;put x 0;out 1;end;atomic;get v t at 1;put t v at 1;put x v;out v;end;", "put t 5", []int64{1, 0}},
	} {
		s := lines("shared t 2;shared x;thread;" + c.blocks + "thread;atomic;" + c.other + ";end;")
		for place := range stepsOf(t, s, 1) {
			m := made(t, s)
			for n := 0; n < 1000 && len(m.Out(0)) == 0; n++ {
				m.Step(0)
			}
			for range place {
				m.Step(1)
			}
			if !alone(m, 0) || !slices.Equal(m.Out(0), c.outs) {
				t.Fatalf("%q: %v, state %d behind %d steps of the other", c.blocks, m.Out(0), m.State(0), place)
			}
		}
	}
}

// A thread that is beyond its blocks keeps nobody waiting, even if nothing was flushed: what it stored for others is in the memory by then.
func TestBeyondBlocks(t *testing.T) {
	m := made(t, lines("shared x;shared y 2;thread;atomic;put x 1;get v y;put y 2 at 1;out v;end;thread;atomic;get v x;get w y at 1;put x 3;out v;out w;end;"))
	for n := 0; n < 1000 && len(m.Out(0)) == 0; n++ {
		m.Step(0)
	}
	if !alone(m, 1) || !slices.Equal(m.Out(1), []int64{1, 2}) {
		t.Errorf("%v, state %d", m.Out(1), m.State(1))
	}
}
