package commits_test

import (
	"errors"
	"math/rand"
	"strings"
	"testing"

	"commits/api"
	"commits/commits"
)

// checkCompile sees to it that Compile answers just that fault or, where e is OK, the code of as many threads.
func checkCompile(t *testing.T, s string, e api.Errno, line int) {
	t.Helper()
	code, err := commits.Compile(s)
	if e == api.OK {
		if err != nil {
			t.Errorf("Compile(%q): %v", s, err)
			return
		}
		checkCode(t, s, code)
		return
	}
	var f *api.Fault
	if code != "" || !errors.As(err, &f) || f.Err != e || f.Line != line {
		t.Errorf("Compile(%.200q) of %d bytes: %d bytes, %v, want error %d in line %d", s, len(s), len(code), err, e, line)
	}
	for k := api.OK; k <= api.ErrLimit; k++ {
		if errors.Is(err, k) != (k == e) {
			t.Errorf("Compile(%q): errors.Is of %d: %v", s, k, k != e)
		}
	}
}

// checkCode holds a program's code against P2, and its threads against the program's.
func checkCode(t *testing.T, s, code string) {
	t.Helper()
	m, err := commits.Load(code)
	if m == nil || err != nil {
		t.Errorf("the code of %q: %v", s, err)
		return
	}
	threads := 0
	for _, line := range strings.Split(s, "\n") {
		if line == "thread" {
			threads++
		}
	}
	for k := range api.MaxThreads {
		if (m.State(k) == api.Runs) != (k < threads) {
			t.Errorf("the code of %q: thread %d has state %d", s, k, m.State(k))
		}
	}
}

// P6: every line, with names and numbers wherever both may stand.
func TestProgramLines(t *testing.T) {
	for _, s := range []string{
		"set a 0", "set a b", "set abcdef 1", "set a -9223372036854775808", "set a 9223372036854775807", "set a 1 + 2", "set a b + b", "set a b + 2", "set a 1 + b", "set b b", "set at 1", "set set b", "set end b", "set or b | 1",
		"out 1", "out b", "out -1", "atomic;end", "if 1;end", "if b;end", "if -9;end", "loop 1;end", "loop 4;end",
		"atomic;get a x;end", "atomic;get a x at 0;end", "atomic;get b x at b;end", "atomic;get a y at 5;end", "atomic;get at thread at b;end", "atomic;put x 1;end", "atomic;put x b;end", "atomic;put x 1 at 2;end", "atomic;put x b at b;end", "atomic;put x 1 at -1;end", "atomic;if b;put x 1;end;loop 2;get b x;end;end",
	} {
		checkCompile(t, lines("shared x;shared y 2;shared thread 3;thread;set b 1;"+s+";"), api.OK, 0)
	}
	for _, sign := range []string{"+", "-", "*", "/", "%", "&", "|", "^", "<<", ">>", "<", "=="} {
		checkCompile(t, lines("thread;set a 1 "+sign+" 2;set a a "+sign+" a;"), api.OK, 0)
		for _, behind := range []string{"", " ", " 2 ", " 2 2", " x1", "2"} {
			checkCompile(t, lines("thread;set a 1 "+sign+behind+";"), api.ErrSyntax, 2)
		}
	}
	for n := range 9 {
		line := "shared x " + string(rune('0'+n)) + ";thread;"
		if n >= 1 && n <= 6 {
			checkCompile(t, lines(line), api.OK, 0)
		} else {
			checkCompile(t, lines(line), api.ErrSyntax, 1)
		}
		line = "thread;loop " + string(rune('0'+n)) + ";end;"
		if n >= 1 && n <= 4 {
			checkCompile(t, lines(line), api.OK, 0)
		} else {
			checkCompile(t, lines(line), api.ErrSyntax, 2)
		}
	}
}

// P6, P7: lines that are none, each where a line of its kind might stand.
func TestWrongProgramLines(t *testing.T) {
	for _, s := range []string{
		"", " ", "x", "1", "nop", "SET a 1", "Out 1", "halt", "mov r0 1", "set", "set a", "set a ", "set a  1", " set a 1", "set a 1 ", "set\ta 1", "set a 1\r", "set 1 1", "set A 1", "set a1 1", "set a_b 1", "set abcdefg 1", "set \u00e4 1", "set a abcdefg", "set a B", "set a \xff",
		"set a +1", "set a 01", "set a 00", "set a -0", "set a -", "set a --1", "set a 1_0", "set a 0x1", "set a 1.0", "set a 9223372036854775808", "set a -9223372036854775809", "set a 1 + 9223372036854775808", "set a 1 +", "set a 1 + ", "set a 1 + 2 + 3", "set a + 1", "set a 1 2", "set a 1 add 2", "set a 1 <= 2", "set a 1 > 2", "set a 1 = 2", "set a 1 != 2", "set a 1 && 2", "set a 1+2", "set a 1 <<< 2", "set a 1 + -", "set a - 1",
		"out", "out ", "out 1 2", "out x1", "out abcdefg", "out -0", "atomic 1", "atomic ", "if", "if ", "if 1 2", "if x == 1", "loop", "loop 0", "loop 5", "loop -1", "loop 01", "loop a", "loop 1 1", "loop 4 ", "end 1", "end ", "ends", "else", "thread 1", "thread ", "threads",
		"get", "get a", "get a ", "get a 1", "get a x at", "get a x at ", "get a x 1", "get a x in 1", "get a x at 1 2", "get 1 x", "get a x at 01", "get a x at abcdefg", "get a abcdefg", "put", "put x", "put x ", "put 1 1", "put x 1 at", "put x 1 1", "put x 1 in 1", "put x at 1", "put x 1 at 1 1", "put x 1 at -0", "put abcdefg 1", "put x abcdefg",
		"shared", "shared ", "shared 1", "shared X", "shared x 0", "shared x 7", "shared x -1", "shared x 01", "shared x a", "shared x 1 1", "shared x ", "shared abcdefg", "shared x1", "shared x 9223372036854775808",
	} {
		checkCompile(t, "shared x\nthread\nset b 1\natomic\n"+s+"\nend\n", api.ErrSyntax, 5)
		checkCompile(t, s+"\nthread\n", api.ErrSyntax, 1)
		checkCompile(t, "shared x\n"+s+"\n", api.ErrSyntax, 2)
	}
	for _, s := range []string{"shared x", "thread", "set a 1", "out 1", "atomic", "end", "if 1", "loop 2", "get a x", "put x 1"} {
		checkCompile(t, "thread\n"+s, api.ErrSyntax, 2)
		checkCompile(t, s, api.ErrSyntax, 1)
	}
}

// P7: where lines may stand and what they may name.
func TestPlacesAndNames(t *testing.T) {
	for _, c := range []struct {
		s    string
		e    api.Errno
		line int
	}{
		{"", api.ErrSyntax, 1}, {";", api.ErrSyntax, 1}, {"thread;;", api.ErrSyntax, 2}, {";thread;", api.ErrSyntax, 1}, {"thread;", api.OK, 0},
		{"set a 1;", api.ErrPlace, 1}, {"get a x;", api.ErrPlace, 1}, {"put x 1;", api.ErrPlace, 1}, {"out 1;", api.ErrPlace, 1}, {"atomic;", api.ErrPlace, 1}, {"if 1;", api.ErrPlace, 1}, {"loop 1;", api.ErrPlace, 1}, {"end;", api.ErrPlace, 1}, {"shared x;out 1;thread;", api.ErrPlace, 2},
		{"shared x;", api.ErrPlace, 2}, {"shared x;shared y;shared z;", api.ErrPlace, 4}, {"thread;shared x;", api.ErrPlace, 2}, {"thread;out 1;shared x;", api.ErrPlace, 3}, {"thread;if 1;shared x;end;", api.ErrPlace, 3}, {"thread;end;", api.ErrPlace, 2}, {"thread;if 1;end;end;", api.ErrPlace, 4}, {"thread;if 1;end;thread;end;", api.ErrPlace, 5},
		{"thread;if 1;", api.ErrPlace, 3}, {"thread;loop 2;out 1;", api.ErrPlace, 4}, {"thread;atomic;", api.ErrPlace, 3}, {"thread;atomic;if 1;end;", api.ErrPlace, 5}, {"thread;if 1;thread;", api.ErrPlace, 3}, {"thread;loop 1;thread;end;", api.ErrPlace, 3}, {"thread;atomic;thread;end;", api.ErrPlace, 3}, {"thread;if 1;end;thread;", api.OK, 0},
		{"shared x;thread;get v x;", api.ErrPlace, 3}, {"shared x;thread;put x 1;", api.ErrPlace, 3}, {"shared x;thread;loop 2;if 1;get v x;end;end;", api.ErrPlace, 5}, {"shared x;thread;atomic;end;get v x;", api.ErrPlace, 5}, {"shared x;thread;atomic;end;thread;put x 1;", api.ErrPlace, 6}, {"shared x;thread;atomic;if 1;end;put x 1;end;", api.OK, 0}, {"shared x;thread;if 1;atomic;put x 1;end;end;", api.OK, 0},
		{"thread;atomic;atomic;end;end;", api.ErrPlace, 3}, {"thread;atomic;loop 1;atomic;end;end;end;", api.ErrPlace, 4}, {"thread;if 1;atomic;if 1;atomic;end;end;end;end;", api.ErrPlace, 5}, {"thread;atomic;end;atomic;end;", api.OK, 0}, {"thread;atomic;if 1;end;end;atomic;end;", api.OK, 0},
		{"shared x;shared x;thread;", api.ErrName, 2}, {"shared x;shared x 2;thread;", api.ErrName, 2}, {"shared x 2;shared y;shared x;thread;", api.ErrName, 3}, {"shared x;shared xx;shared xxxxxx;thread;", api.OK, 0},
		{"shared x;thread;atomic;get v y;end;", api.ErrName, 4}, {"shared x;thread;atomic;put y 1;end;", api.ErrName, 4}, {"thread;set v 1;atomic;get w v;end;", api.ErrName, 4}, {"thread;set v 1;atomic;put v 1;end;", api.ErrName, 4}, {"shared x;thread;atomic;get v x;get w v;end;", api.ErrName, 5},
		{"thread;out a;", api.ErrName, 2}, {"thread;if a;end;", api.ErrName, 2}, {"thread;set a a;", api.ErrName, 2}, {"thread;set a b;", api.ErrName, 2}, {"thread;set a 1 + a;", api.ErrName, 2}, {"thread;set a a + 1;", api.ErrName, 2}, {"thread;set a 1;set b a + c;", api.ErrName, 3}, {"thread;set a 1;thread;out a;", api.ErrName, 4}, {"shared x;thread;atomic;put x a;end;", api.ErrName, 4}, {"shared x;thread;atomic;put x 1 at a;end;", api.ErrName, 4}, {"shared x;thread;atomic;get v x at a;end;", api.ErrName, 4}, {"shared x;thread;atomic;get v x at v;end;", api.ErrName, 4}, {"shared x;thread;atomic;get v x;get v x at v;put x v at v;end;", api.OK, 0},
		{"shared x;thread;set x 1;", api.ErrName, 3}, {"shared x;thread;set x 1 + 1;", api.ErrName, 3}, {"shared x;thread;atomic;get x x;end;", api.ErrName, 4}, {"shared x;shared y;thread;atomic;get y x;end;", api.ErrName, 5}, {"shared x;thread;out x;", api.ErrName, 3}, {"shared x;thread;if x;end;", api.ErrName, 3}, {"shared x;thread;set a x;", api.ErrName, 3}, {"shared x;thread;atomic;put x x;end;", api.ErrName, 4}, {"shared x;thread;atomic;get v x at x;end;", api.ErrName, 4},
		{"thread;if 0;set a 1;end;out a;", api.OK, 0}, {"shared x;thread;if 0;atomic;get a x;end;end;set a a;", api.OK, 0}, {"thread;loop 2;out a;set a 1;end;", api.ErrName, 3}, {"thread;set a 1;thread;set a 1;out a;", api.OK, 0},
	} {
		checkCompile(t, lines(c.s), c.e, c.line)
	}
}

// P7: how much there may be of all, in a line and in the whole.
func TestLimits(t *testing.T) {
	const four = "set a 1;set b 1;set c 1;set d 1;"
	many := strings.Repeat
	for _, c := range []struct {
		s    string
		e    api.Errno
		line int
	}{
		{"thread;" + four + "set a 2;out d;", api.OK, 0}, {"thread;" + four + "set e 1;", api.ErrLimit, 6}, {"thread;" + four + "set e a + b;", api.ErrLimit, 6}, {"shared x;thread;" + four + "atomic;get d x;end;", api.OK, 0}, {"shared x;thread;" + four + "atomic;get e x;end;", api.ErrLimit, 8}, {"thread;" + four + "thread;set e 1;set f 1;set g 1;set h 1;", api.OK, 0}, {"thread;" + four + "thread;" + four + "set e 1;", api.ErrLimit, 11},
		{"thread;" + many("out 1;", 14), api.OK, 0}, {"thread;" + many("out 1;", 15), api.ErrLimit, 16}, {"thread;" + many("if 1;end;", 14), api.OK, 0}, {"thread;" + many("if 1;end;", 15), api.ErrLimit, 30}, {"thread;loop 2;" + many("out 1;", 13) + "end;", api.OK, 0}, {"thread;loop 2;" + many("out 1;", 13) + "end;out 1;", api.ErrLimit, 17}, {"thread;" + many("out 1;", 14) + "thread;" + many("out 1;", 14) + "thread;" + many("out 1;", 14), api.OK, 0}, {"thread;" + many("out 1;", 14) + "atomic;end;", api.ErrLimit, 16}, {"thread;if 1;" + many("set a 1;", 14) + "end;", api.ErrLimit, 16}, {"shared x;thread;atomic;" + many("put x 1;", 13) + "end;", api.OK, 0}, {"shared x;thread;atomic;" + many("get v x;", 14) + "end;", api.ErrLimit, 17},
		{"thread;if 1;loop 1;atomic;end;end;end;", api.OK, 0}, {"thread;if 1;loop 1;atomic;if 1;end;end;end;end;", api.ErrLimit, 5}, {"thread;loop 1;loop 1;loop 1;loop 1;end;end;end;end;", api.ErrLimit, 5}, {"thread;if 1;if 1;if 1;atomic;end;end;end;end;", api.ErrLimit, 5}, {"thread;if 1;if 1;if 1;out 1;end;if 1;end;end;end;", api.OK, 0}, {"thread;if 1;if 1;if 1;end;end;end;thread;if 1;if 1;if 1;if 1;end;end;end;end;", api.ErrLimit, 12},
		{"thread;thread;thread;", api.OK, 0}, {"thread;thread;thread;thread;", api.ErrLimit, 0}, {many("thread;", 285), api.ErrLimit, 0}, {"shared x 6;thread;", api.OK, 0}, {"shared x 3;shared y 3;thread;", api.OK, 0}, {many("shared x;", 1) + "shared y;shared z;shared u;shared v;shared w;thread;", api.OK, 0}, {"shared x 6;shared y;thread;", api.ErrLimit, 0}, {"shared x 4;shared y 3;thread;", api.ErrLimit, 0}, {"shared x;shared y;shared z;shared u;shared v;shared w;shared q;thread;", api.ErrLimit, 0}, {"shared x 6;shared y 6;shared z 6;thread;thread;thread;thread;", api.ErrLimit, 0},
		{"thread;" + many("atomic;end;", 3), api.OK, 0}, {"thread;" + many("atomic;end;", 4), api.ErrLimit, 0}, {"thread;loop 3;atomic;end;end;", api.OK, 0}, {"thread;loop 4;atomic;end;end;", api.ErrLimit, 0}, {"thread;loop 2;atomic;end;atomic;end;end;", api.ErrLimit, 0}, {"thread;loop 2;atomic;end;end;atomic;end;", api.OK, 0}, {"thread;loop 2;loop 2;atomic;end;end;end;", api.ErrLimit, 0}, {"thread;loop 1;loop 3;atomic;end;end;end;", api.OK, 0}, {"thread;atomic;end;atomic;end;atomic;end;if 0;atomic;end;end;", api.ErrLimit, 0}, {"thread;if 0;loop 4;atomic;end;end;end;", api.ErrLimit, 0}, {"thread;loop 3;atomic;end;end;thread;loop 3;atomic;end;end;thread;loop 3;atomic;end;end;", api.OK, 0}, {"thread;thread;loop 4;if 0;atomic;end;end;end;", api.ErrLimit, 0},
		{"thread;atomic;" + many("out 1;", 8) + "end;", api.OK, 0}, {"thread;atomic;" + many("out 1;", 9) + "end;", api.ErrLimit, 0}, {"thread;" + many("out 1;", 9), api.OK, 0}, {"thread;atomic;loop 4;out 1;out 1;end;end;", api.OK, 0}, {"thread;atomic;loop 4;out 1;out 1;end;out 1;end;", api.ErrLimit, 0}, {"thread;atomic;loop 3;loop 3;out 1;end;end;end;", api.ErrLimit, 0}, {"thread;atomic;loop 2;loop 4;out 1;end;end;end;", api.OK, 0}, {"thread;atomic;loop 4;if 0;out 1;out 1;out 1;end;end;end;", api.ErrLimit, 0}, {"thread;loop 3;atomic;loop 4;out 1;out 1;end;end;end;", api.OK, 0}, {"thread;atomic;" + many("out 1;", 5) + "end;atomic;" + many("out 1;", 5) + "end;", api.OK, 0}, {"thread;if 0;atomic;" + many("out 1;", 9) + "end;out 1;end;out 1;", api.ErrLimit, 0}, {"thread;atomic;end;thread;atomic;end;loop 2;atomic;" + many("out 1;", 9) + "end;end;", api.ErrLimit, 0},
	} {
		checkCompile(t, lines(c.s), c.e, c.line)
	}
}

// P7: the first line with a fault counts, and of one line the first fault.
func TestOrderOfFaults(t *testing.T) {
	const four, full = "set a 1;set b 1;set c 1;set d 1;", "out 1;out 1;out 1;out 1;out 1;out 1;out 1;out 1;out 1;out 1;out 1;out 1;out 1;out 1;"
	for _, c := range []struct {
		s    string
		e    api.Errno
		line int
	}{
		{"out 1;x;", api.ErrPlace, 1}, {"x;out 1;", api.ErrSyntax, 1}, {"thread;out a;x;", api.ErrName, 2}, {"thread;out a;end;", api.ErrName, 2}, {"thread;" + full + "out 1;out a;", api.ErrLimit, 16}, {"thread;end;out a;", api.ErrPlace, 2}, {"thread;if 1;out a;", api.ErrName, 3}, {"shared x;shared x;", api.ErrName, 2}, {"thread;if 1;x", api.ErrSyntax, 3},
		{"out 1 1;", api.ErrSyntax, 1}, {"end 1;", api.ErrSyntax, 1}, {"thread;shared x 7;", api.ErrSyntax, 2}, {"thread;if 1;thread 1;", api.ErrSyntax, 3}, {"thread;get a 1;", api.ErrSyntax, 2}, {"thread;atomic;atomic 1;end;end;", api.ErrSyntax, 3}, {"shared x;shared x 0;thread;", api.ErrSyntax, 2}, {"thread;out a a;", api.ErrSyntax, 2}, {"thread;" + full + "out 01;", api.ErrSyntax, 16}, {"thread;" + four + "set e 1 +;", api.ErrSyntax, 6}, {"thread;if 1;if 1;if 1;loop 5;end;end;end;end;", api.ErrSyntax, 5},
		{"out a;", api.ErrPlace, 1}, {"shared x;thread;shared x;", api.ErrPlace, 3}, {"thread;get a b;", api.ErrPlace, 2}, {"shared x;thread;get x x;", api.ErrPlace, 3}, {"thread;put a b at c;", api.ErrPlace, 2}, {"shared x;thread;" + four + "get e x;", api.ErrPlace, 7}, {"shared x;thread;" + full + "put x 1;", api.ErrPlace, 17}, {"thread;atomic;if 1;if 1;atomic;end;end;end;end;", api.ErrPlace, 5}, {"thread;" + full + "end;", api.ErrPlace, 16},
		{"thread;" + four + "set e f;", api.ErrName, 6}, {"thread;" + four + "set e e;", api.ErrName, 6}, {"thread;" + full + "out a;", api.ErrName, 16}, {"thread;if 1;if 1;if 1;if a;end;end;end;end;", api.ErrName, 5}, {"shared e;thread;" + four + "set e 1;", api.ErrName, 7}, {"shared x;thread;" + four + "atomic;get e y;end;", api.ErrName, 8},
		{"thread;thread;thread;thread;out a;", api.ErrName, 5}, {"thread;thread;thread;thread;if 1;", api.ErrPlace, 6}, {"shared x 6;shared y 6;", api.ErrPlace, 3}, {"shared x 6;shared y 6;x;", api.ErrSyntax, 3}, {"thread;loop 4;atomic;end;end;end;", api.ErrPlace, 6}, {"thread;atomic;" + strings.Repeat("out 1;", 9) + "end;" + strings.Repeat("out 1;", 5), api.ErrLimit, 17}, {"thread;loop 4;atomic;end;end;x", api.ErrSyntax, 6},
	} {
		checkCompile(t, lines(c.s), c.e, c.line)
	}
}

// programOf is a program of just so many bytes (525 to 2,037), which has no fault but perhaps its length.
func programOf(size int) string {
	left := size - 3*len("thread\n") - 42*len("set a 1 + 1\n")
	number := func() string {
		n := min(left, 18)
		left -= n
		return "1" + strings.Repeat("0", n)
	}
	var b strings.Builder
	for range 3 {
		b.WriteString("thread\n")
		for range 14 {
			b.WriteString("set a " + number() + " + " + number() + "\n")
		}
	}
	return b.String()
}

// P6, P7: the length counts ahead of all else.
func TestLongPrograms(t *testing.T) {
	for _, size := range []int{525, 1999, 2000, 2001, 2037} {
		s := programOf(size)
		if len(s) != size {
			t.Fatalf("the test's program has %d bytes", len(s))
		}
		if size <= 2000 {
			checkCompile(t, s, api.OK, 0)
			continue
		}
		checkCompile(t, s, api.ErrLong, 0)
	}
	for _, s := range []string{"x", " ", "\n", "\x00", "\xff"} {
		checkCompile(t, strings.Repeat(s, 2000), api.ErrSyntax, 1)
		checkCompile(t, strings.Repeat(s, 2001), api.ErrLong, 0)
		checkCompile(t, strings.Repeat(s, 1000000), api.ErrLong, 0)
	}
}

// P7: the programs whose code is longest are codes, too: three threads of three blocks, with all that is put and given out.
func TestLongestCodes(t *testing.T) {
	const get, put, long = "get v x at v;", "put x v at v;", "set v -9223372036854775808 + -9223372036854775808;"
	many := strings.Repeat
	for _, s := range []string{
		many("atomic;"+put+get+"out v;end;", 3) + "out v;", many("atomic;"+many(put, 3)+"end;", 2) + "atomic;" + many(get, 4) + "end;", "atomic;put x v;end;atomic;put x v;end;atomic;" + many(put+get, 4) + "end;", many("atomic;"+put+get+"loop 4;out v;end;end;", 2) + "atomic;out 1;out v;end;",
		"atomic;" + many(put, 12) + "end;", "atomic;" + many(get, 12) + "end;", "atomic;loop 4;loop 4;" + many(put+get, 5) + "end;end;end;", many("loop 4;end;", 13), many("if v;end;", 13), many(long, 11),
	} {
		checkCompile(t, lines("shared x 6;"+many("thread;set v 1;"+s, 3)), api.OK, 0)
	}
}

// P7: texts made of a program's lines, shuffled, left out and done twice, with words that belong elsewhere.
func TestJudged(t *testing.T) {
	r := rand.New(rand.NewSource(5))
	faults := map[api.Errno]int{}
	for range 20000 {
		s := spoiled(r, randomProgram(r))
		e, line := judge(s)
		faults[e]++
		if checkCompile(t, s, e, line); t.Failed() {
			return
		}
	}
	for e := api.OK; e <= api.ErrLimit; e++ {
		if faults[e] < 50 && e != api.ErrLong {
			t.Errorf("error %d came too seldom: %v", e, faults)
		}
	}
}

// spoiled is a program in which a few things are not as they were.
func spoiled(r *rand.Rand, s string) string {
	all := strings.SplitAfter(s, "\n")
	for range r.Intn(4) {
		i, k := r.Intn(len(all)), r.Intn(len(all))
		switch r.Intn(6) {
		case 0:
			all[i], all[k] = all[k], all[i]
		case 1:
			all[i] = ""
		case 2:
			all[i] += all[k]
		case 3:
			words := strings.Split(all[i], " ")
			words[r.Intn(len(words))] = oddWord(r)
			all[i] = strings.Join(words, " ")
		case 4:
			all[i] += []string{"thread\n", "end\n", "atomic\n", "atomic\nend\n", "shared x\n", "shared q 6\n", "loop 4\n", "if 1\nend\n", "set e 1\n", "set q 1\n", "out 1\nout 1\nout 1\n", "get a x\n", "put y 1 at 1\n"}[r.Intn(13)]
		case 5:
			all[i] = strings.Repeat(all[i], 1+r.Intn(5))
		}
	}
	s = strings.Join(all, "")
	if r.Intn(20) == 0 {
		s = s[:r.Intn(len(s)+1)]
	}
	return s
}

func oddWord(r *rand.Rand) string {
	return []string{"", "a", "bb", "x", "at", "q", "1", "0", "-1", "-0", "07", "7", "+", "end", "end\n", "abcdef", "abcdefg", "abcdefg\n", "9223372036854775808", "thread", "1\n", "a\n", "q\n", "6\n", "7\n"}[r.Intn(25)]
}

// P1: what Compile answers hangs on the text alone.
func TestSameCode(t *testing.T) {
	r := rand.New(rand.NewSource(6))
	for range 300 {
		s := randomProgram(r)
		one, _ := commits.Compile(s)
		commits.Compile(randomProgram(r))
		if two, _ := commits.Compile(s); one != two || one == "" {
			t.Fatalf("Compile(%q): %q, then %q", s, one, two)
		}
	}
}

// P1: no text makes Compile panic, and what it answers is a code or a fault.
func FuzzCompile(f *testing.F) {
	r := rand.New(rand.NewSource(7))
	for range 20 {
		f.Add(randomProgram(r))
		f.Add(spoiled(r, randomProgram(r)))
	}
	for _, s := range []string{"", "\n", "thread", "\xff\n", "thread\nset a\n", "shared x 6\nthread\natomic\nget v x at 7\nend\n"} {
		f.Add(s)
	}
	f.Fuzz(func(t *testing.T, s string) {
		e, line := judge(s)
		checkCompile(t, s, e, line)
	})
}
