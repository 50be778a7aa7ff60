package commits_test

import (
	"math/rand"
	"slices"
	"strings"
	"testing"

	"commits/api"
	"commits/commits"
)

// made is the machine of a program.
func made(t *testing.T, s string) *commits.Machine {
	t.Helper()
	code, err := commits.Compile(s)
	if code == "" || err != nil {
		t.Fatalf("Compile(%q): %q, %v", s, code, err)
	}
	m, err := commits.Load(code)
	if m == nil || err != nil {
		t.Fatalf("the code of %q: %v", s, err)
	}
	return m
}

// alone lets a thread step alone, up to its end; false: it does not come to it.
func alone(m *commits.Machine, k int) bool {
	for range 200000 {
		if m.State(k) != api.Runs {
			return true
		}
		m.Step(k)
		flushAll(m, k)
	}
	return m.State(k) != api.Runs
}

func flushAll(m *commits.Machine, k int) {
	for m.Waiting(k) > 0 {
		m.Flush(k)
	}
}

// late lets a thread come to its end with flushes at random, and with all that are left behind it.
func late(r *rand.Rand, m *commits.Machine, k int) bool {
	often := r.Intn(3)
	for range 200000 {
		if m.State(k) != api.Runs {
			break
		}
		m.Step(k)
		if r.Intn(4) < often {
			m.Flush(k)
		}
	}
	flushAll(m, k)
	return m.State(k) != api.Runs
}

// P6, P8: what programs do whose threads run one after the other.
func TestSerial(t *testing.T) {
	const least, most = "-9223372036854775808", "9223372036854775807"
	for _, c := range []struct {
		s     string
		outs  [][]int64
		state []int
	}{
		{"thread;", [][]int64{nil}, []int{10}}, {"thread;thread;thread;", [][]int64{nil, nil, nil}, []int{10, 10, 10}}, {"thread;atomic;end;if 1;end;loop 4;end;", [][]int64{nil}, []int{10}}, {"thread;out " + least + ";out " + most + ";out 0;", [][]int64{{-1 << 63, 1<<63 - 1, 0}}, []int{10}},
		{"thread;set a 1;set b 2;set c 3;set d 4;set a d;out a;out b;out c;out d;thread;set d 9;out d;", [][]int64{{4, 2, 3, 4}, {9}}, []int{10, 10}}, {"thread;set abcdef 5;set abcdef abcdef * abcdef;out abcdef;", [][]int64{{25}}, []int{10}}, {"shared end;thread;set at 1;set if 2;atomic;put end if;get at end at 0;end;out at;", [][]int64{{2}}, []int{10}}, {"thread;if 0;set a 1;end;out a;if 1;set a 2;end;out a;", [][]int64{{0, 2}}, []int{10}},
		{"thread;set a 9 + 4;out a;set a 9 - 4;out a;set a 9 * 4;out a;set a 9 / 4;out a;set a 9 % 4;out a;", [][]int64{{13, 5, 36, 2, 1}}, []int{10}}, {"thread;set a 12 & 10;out a;set a 12 | 10;out a;set a 12 ^ 10;out a;set a 5 << 66;out a;set a -9 >> 1;out a;", [][]int64{{8, 14, 6, 20, -5}}, []int{10}}, {"thread;set a 3 < 4;out a;set a 4 < 4;out a;set a 4 == 4;out a;set a 4 == 3;out a;", [][]int64{{1, 0, 1, 0}}, []int{10}}, {"thread;set a " + most + " + 1;out a;set a " + least + " / -1;out a;set a " + least + " % -1;out a;set a " + most + " * " + most + ";out a;", [][]int64{{-1 << 63, -1 << 63, 0, 1}}, []int{10}},
		{"thread;out 1;set a 1 / 0;out 2;thread;out 3;", [][]int64{{1}, {3}}, []int{1, 10}}, {"thread;set z 0;if 1;set z 1 % z;end;out 1;", [][]int64{nil}, []int{1}}, {"thread;set a 3;loop 4;out a;set a a - 1;set b 6 / a;out b;end;", [][]int64{{3, 3, 2, 6, 1}}, []int{1}}, {"thread;if 0;set a 1 / 0;end;out a;", [][]int64{{0}}, []int{10}},
		{"thread;loop 1;out 1;end;loop 4;out 2;end;", [][]int64{{1, 2, 2, 2, 2}}, []int{10}}, {"thread;set a 0;loop 4;loop 4;loop 4;set a a + 1;end;end;end;out a;", [][]int64{{64}}, []int{10}}, {"thread;set a 1;set b 2;set c 3;set d 4;loop 1;loop 3;atomic;set d d + 1;set c c + 1;out d;out c;end;end;end;", [][]int64{{5, 4, 6, 5, 7, 6}}, []int{10}}, {"thread;loop 2;out 0;loop 3;out 1;end;loop 1;out 2;loop 2;out 3;end;end;end;", [][]int64{{0, 1, 1, 1, 2, 3, 3, 0, 1, 1, 1, 2, 3, 3}}, []int{10}}, {"thread;set a -1;if a;out 1;set a 0;if a;out 2;end;out 3;end;if a;out 4;end;", [][]int64{{1, 3}}, []int{10}},
		{"shared x;shared y 3;shared z 2;thread;atomic;put x 1;put y 2;put y 3 at 1;put y 4 at 2;put z 5;put z 6 at 1;end;thread;atomic;get a x;out a;get a y;out a;get a y at 1;out a;get a y at 2;out a;get a z at 0;out a;get a z at 1;out a;end;", [][]int64{nil, {1, 2, 3, 4, 5, 6}}, []int{10, 10}}, {"shared x 6;thread;set i 0;atomic;loop 4;put x i at i;set i i + 1;end;put x 9 at 5;end;thread;set i 5;atomic;loop 4;get v x at i;out v;set i i - 1;end;end;", [][]int64{nil, {9, 0, 3, 2}}, []int{10, 10}}, {"shared x 2;thread;set i 1;atomic;put x 7 at i;get i x at i;out i;end;atomic;get v x at 1;out v;get v x;out v;end;", [][]int64{{7, 7, 0}}, []int{10}},
		{"shared x;thread;atomic;get v x;out v;put x 1;get v x;out v;if 0;put x 2;end;get v x;out v;end;atomic;get v x;out v;end;", [][]int64{{0, 1, 1, 1}}, []int{10}}, {"shared x;thread;loop 3;atomic;get v x;set v v + 1;put x v;out v;end;out 0;end;thread;loop 3;atomic;get v x;set v v * 2;put x v;out v;end;end;", [][]int64{{1, 0, 2, 0, 3, 0}, {6, 12, 24}}, []int{10, 10}}, {"shared x;shared y;thread;loop 2;atomic;get a x;if a;put y 7;end;put x 1;end;end;atomic;get b y;end;out b;", [][]int64{{7}}, []int{10}}, {"shared x;thread;set a 1;atomic;set a a + 1;out a;put x a;end;set a a + 1;out a;", [][]int64{{2, 3}}, []int{10}},
		{"shared x;thread;atomic;out 1;out 2;out 3;out 4;out 5;out 6;out 7;out 8;end;atomic;out 9;end;", [][]int64{{1, 2, 3, 4, 5, 6, 7, 8, 9}}, []int{10}}, {"thread;set a 0;loop 3;atomic;loop 4;out a;set a a + 1;out a;end;end;end;", [][]int64{{0, 1, 1, 2, 2, 3, 3, 4, 4, 5, 5, 6, 6, 7, 7, 8, 8, 9, 9, 10, 10, 11, 11, 12}}, []int{10}},
	} {
		checkSerial(t, c.s, c.outs, c.state)
	}
}

// checkSerial lets the threads run one after the other.
func checkSerial(t *testing.T, s string, outs [][]int64, state []int) {
	t.Helper()
	m := made(t, lines(s))
	for k := range outs {
		done := alone(m, k)
		if got := m.Out(k); !done || !slices.Equal(got, outs[k]) || m.State(k) != state[k] {
			t.Errorf("%q: thread %d: %v, state %d, at its end %v, want %v, %d", s, k, got, m.State(k), done, outs[k], state[k])
		}
	}
}

// P8: a block that is trapped: another thread sees none of its puts, nothing that it was to give out comes out, and its thread does no more.
func TestTrapped(t *testing.T) {
	const seen = "thread;atomic;get v x;out v;get v y at 1;out v;end;"
	for _, c := range []struct {
		trapped string
		state   int
	}{
		{"set v 1 / 0", 1}, {"set v v % w", 1}, {"if 1;set v 1 / w;end", 1}, {"loop 4;set v w / w;end", 1}, {"get v x;set w 5 - v;set v 1 / w", 1},
		{"get v y at 2", 2}, {"get v y at -1", 2}, {"get v x at 1", 2}, {"get v x at -9223372036854775808", 2}, {"get v y at 9223372036854775807", 2}, {"set v 2;get v y at v", 2}, {"set v -1;get v y at v", 2}, {"set v 4611686018427387904;get w y at v", 2},
		{"put y 1 at 2", 2}, {"put y 1 at -1", 2}, {"put x 1 at 1", 2}, {"set v 2;put y 1 at v", 2}, {"set v -1;put y v at v", 2}, {"set v -9223372036854775808;put y v at v", 2}, {"set v 9223372036854775807;put x v at v", 2}, {"put x 1 at 256", 2}, {"put x 1 at -6", 2},
		{"set v 0;loop 4;put y v at v;out v;set v v + 1;end", 2}, {"loop 2;put y 9 at w;out w;set w w + 2;end", 2}, {"set v 1 / 0;get v y at 2", 1}, {"get v y at 2;set v 1 / 0", 2},
	} {
		checkSerial(t, "shared x;shared y 2;thread;set v 0;set w 0;out 7;atomic;put x 5;put y 6 at 1;out 8;"+c.trapped+";out 9;end;out 10;"+seen, [][]int64{{7}, {0, 0}}, []int{c.state, 10})
		checkSerial(t, "shared x;shared y 2;thread;set v 0;set w 0;atomic;put x 3;out 1;put y 4 at 1;end;atomic;put x 5;out 2;"+c.trapped+";end;"+seen, [][]int64{{1}, {3, 4}}, []int{c.state, 10})
	}
}

// The document's second and third table of examples.
func TestProgramExamples(t *testing.T) {
	checkSerial(t, "thread;set a 7 / 2;set b -7 % 2;out a;out b;", [][]int64{{3, -1}}, []int{10})
	checkSerial(t, "shared t 2;thread;out 1;atomic;put t 5;out 2;get v t at 2;end;out 3;thread;atomic;get v t;out v;end;", [][]int64{{1}, {0}}, []int{2, 10})
	checkSerial(t, "shared x;thread;loop 3;atomic;get v x;set v v + 2;put x v;out v;end;end;", [][]int64{{2, 4, 6}}, []int{10})
	for _, c := range []struct {
		s    string
		e    api.Errno
		line int
	}{
		{"thread;set a;", api.ErrSyntax, 2}, {"thread;loop 5;end;", api.ErrSyntax, 2}, {"shared x;", api.ErrPlace, 2}, {"shared x;thread;get v x;", api.ErrPlace, 3}, {"thread;atomic;", api.ErrPlace, 3}, {"thread;out a;", api.ErrName, 2}, {"thread;set a a;", api.ErrName, 2}, {"thread;if 1;if 1;if 1;if 1;end;end;end;end;", api.ErrLimit, 5}, {"thread;loop 4;atomic;end;end;", api.ErrLimit, 0},
	} {
		checkCompile(t, lines(c.s), c.e, c.line)
	}
}

// P8: what a block gives out comes out behind it: not ahead of its puts, and all that came ahead of it is out by then.
func TestOutsBehind(t *testing.T) {
	m := made(t, lines("shared x;thread;out 1;atomic;out 2;get v x;put x 5;out 3;end;out 4;thread;atomic;get v x;out v;end;"))
	for m.State(0) == api.Runs && len(m.Out(0)) < 2 {
		m.Step(0)
	}
	flushAll(m, 0)
	if alone(m, 1); !slices.Equal(m.Out(0), []int64{1, 2}) || !slices.Equal(m.Out(1), []int64{5}) {
		t.Errorf("%v, %v", m.Out(0), m.Out(1))
	}
	if alone(m, 0); !slices.Equal(m.Out(0), []int64{1, 2, 3, 4}) {
		t.Errorf("at its end: %v", m.Out(0))
	}
}

// P8: a block knows nothing of what an earlier one of its thread has put: between them another thread's block may put there.
func TestBlocksInTurn(t *testing.T) {
	const twice = "set n 0;set w 1;loop 2;atomic;if w;"
	for _, c := range []struct {
		blocks string
		outs   []int64
	}{
		{twice + "put x 5;end;get v x;out v;end;set w 0;end;", []int64{5, 7}}, {twice + "put x 5 at n;end;get v x at 0;out v;end;set w 0;end;", []int64{5, 7}}, {twice + "put x 5 at 1;end;get v x at 1;out v;end;set w 0;end;", []int64{5, 8}}, {twice + "put x 5;end;out w;end;set w 0;end;", []int64{1, 0}},
		{"atomic;put x 5;out 1;end;atomic;get v x;out v;end;", []int64{1, 7}}, {"atomic;get v x;put x 5;out 1;end;atomic;get v x at 1;out v;end;", []int64{1, 8}}, {"atomic;put x 5;out 1;end;atomic;get v x;if 0;put x 6;end;out v;end;", []int64{1, 7}},
	} {
		m := made(t, lines("shared x 2;thread;"+c.blocks+"thread;atomic;put x 7;put x 8 at 1;end;thread;atomic;get v x;out v;get v x at 1;out v;end;"))
		for m.State(0) == api.Runs && len(m.Out(0)) == 0 {
			m.Step(0)
			flushAll(m, 0)
		}
		for _, k := range []int{1, 0, 2} {
			alone(m, k)
		}
		if !slices.Equal(m.Out(0), c.outs) || !slices.Equal(m.Out(2), []int64{7, 8}) {
			t.Errorf("%q: %v, then %v", c.blocks, m.Out(0), m.Out(2))
		}
	}
}

// P8: threads that have nothing in common do what they do alone, however their steps are mixed.
func TestApart(t *testing.T) {
	r := rand.New(rand.NewSource(8))
	loops := "thread;" + strings.Repeat("loop 4;end;", 14)
	block := "thread;set i 0;atomic;loop 4;put y 9 at i;set i i + 1;end;loop 4;set i i - 1;get v y at i;out v;end;end;"
	for range 30 {
		checkApart(t, r, lines("shared y 6;"+loops+block+loops))
		checkApart(t, r, lines("shared y 6;"+loops+loops+block))
	}
	for range 300 {
		if s := randomApart(r); s != "" {
			checkApart(t, r, s)
		}
	}
}

// randomApart is a program of three threads of which each speaks of a shared variable of its own, or nothing if it did not come out well.
func randomApart(r *rand.Rand) string {
	shared, threads := "", ""
	for _, name := range []string{"x", "y", "z"} {
		w := &writer{Rand: r, shared: []string{name}}
		w.line("thread")
		w.body(0, false)
		shared += "shared " + name + " 2\n"
		threads += w.b.String()
	}
	if e, _ := judge(shared + threads); e != api.OK {
		return ""
	}
	return shared + threads
}

func checkApart(t *testing.T, r *rand.Rand, s string) {
	t.Helper()
	m, want := made(t, s), interpret(s)
	for n := 0; n < 200000 && runs(m, 3, -1); n++ {
		m.Step(r.Intn(3))
		m.Flush(r.Intn(9))
	}
	for k, d := range want.threads {
		if want.run(k); !slices.Equal(m.Out(k), d.out) || m.State(k) != d.state {
			t.Fatalf("%q: thread %d: %v, state %d, want %v, %d", s, k, m.Out(k), m.State(k), d.out, d.state)
		}
	}
}

// P8, P10: programs at random, whose threads come one after the other to their ends, in any order, whether their stores wait or not.
func TestInterpreted(t *testing.T) {
	r := rand.New(rand.NewSource(3))
	states := map[int]int{}
	for range 4000 {
		s := randomProgram(r)
		want := interpret(s)
		m := made(t, s)
		lately := r.Intn(2) == 0
		for _, k := range r.Perm(len(want.threads)) {
			want.run(k)
			done := lately && late(r, m, k) || !lately && alone(m, k)
			if d := want.threads[k]; !done || !slices.Equal(m.Out(k), d.out) || m.State(k) != d.state || m.Waiting(k) != 0 {
				t.Fatalf("%q: thread %d: %v, state %d, want %v, %d", s, k, m.Out(k), m.State(k), d.out, d.state)
			}
			states[m.State(k)]++
		}
	}
	if states[10] < 1000 || states[1] < 100 || states[2] < 100 {
		t.Errorf("the programs ended too seldom in one of the ways: %v", states)
	}
}

// P10, first point: wherever a thread stands, it comes to its end behind others that have ended.
func TestGoingOn(t *testing.T) {
	r := rand.New(rand.NewSource(4))
	done := 0
	for range 1000 {
		s := randomProgram(r)
		m := made(t, s)
		threads := len(interpret(s).threads)
		for range r.Intn(200) {
			m.Step(r.Intn(threads))
			m.Flush(r.Intn(threads))
		}
		last := r.Intn(threads)
		for k := range threads {
			for n := 0; k != last && n < 5000 && m.State(k) == api.Runs; n++ {
				m.Step(k)
			}
			flushAll(m, k)
		}
		if runs(m, threads, last) {
			continue
		}
		if done++; !alone(m, last) {
			t.Fatalf("%q: thread %d does not come to its end", s, last)
		}
	}
	if done < 800 {
		t.Errorf("%d times the others came to their ends", done)
	}
}

// runs tells whether a thread but for the last one runs.
func runs(m *commits.Machine, threads, last int) bool {
	for k := range threads {
		if k != last && m.State(k) == api.Runs {
			return true
		}
	}
	return false
}

// P10: the threads that do most, alone.
func TestLongest(t *testing.T) {
	for _, s := range []string{
		"shared x 6;thread;set i 0;loop 4;loop 4;loop 4;" + strings.Repeat("set i i + 1;", 9) + "out i;end;end;end;",
		"shared x 6;thread;set i 0;atomic;loop 4;loop 4;" + strings.Repeat("get v x at i;put x v at i;", 4) + "set i i + 1;set i i % 6;end;end;end;",
		"shared x 6;thread;set i 0;loop 3;atomic;loop 4;" + strings.Repeat("get v x at i;put x i at i;", 3) + "out i;out v;set i i + 1;set i i % 6;end;end;end;",
	} {
		m := made(t, lines(s))
		if !alone(m, 0) || m.State(0) != api.Halted {
			t.Errorf("%q: state %d", s, m.State(0))
		}
	}
}
