package commits_test

import (
	"math"
	"slices"
	"strconv"
	"strings"
	"testing"

	"commits/api"
	"commits/commits"
)

func load(t *testing.T, code string) *commits.Machine {
	t.Helper()
	m, err := commits.Load(lines(code))
	if m == nil || err != nil {
		t.Fatalf("Load(%.60q): %v", code, err)
	}
	return m
}

// pick: a digit: that thread does a step; f and a digit: a flush.
func pick(m *commits.Machine, picks string) {
	for i := 0; i < len(picks); i++ {
		if picks[i] == 'f' {
			i++
			m.Flush(int(picks[i] - '0'))
			continue
		}
		m.Step(int(picks[i] - '0'))
	}
}

// P3: how a machine is at first, and that it has the threads of its code and no others.
func TestNew(t *testing.T) {
	m := load(t, "thread;store 5 0 1;out 1;thread;thread;trap 1;")
	for k := range 3 {
		if l := m.Out(k); l == nil || len(l) != 0 || m.State(k) != api.Runs || m.Waiting(k) != 0 {
			t.Errorf("thread %d at first: out %v, state %d, %d wait", k, l, m.State(k), m.Waiting(k))
		}
	}
	for at := range api.Cells {
		if m.Peek(at) != 0 {
			t.Errorf("cell %d at first: %d", at, m.Peek(at))
		}
	}
	for r := range api.Regs {
		m := load(t, "thread;out r"+strconv.Itoa(r)+";")
		if pick(m, "0"); !slices.Equal(m.Out(0), []int64{0}) {
			t.Errorf("register %d at first: %v", r, m.Out(0))
		}
	}
	m = load(t, "thread;thread;")
	if pick(m, "2"); m.State(0) != api.Runs || m.State(1) != api.Runs || m.State(2) != api.Halted {
		t.Errorf("two threads: states %d %d %d", m.State(0), m.State(1), m.State(2))
	}
}

// P4: what a thread alone gives out, and how it ends.
func TestAlone(t *testing.T) {
	const least, most = "-9223372036854775808", "9223372036854775807"
	for _, c := range []struct {
		code  string
		out   []int64
		state int
	}{
		{"", nil, 10}, {"halt;out 1;", nil, 10}, {"out " + least + ";out " + most + ";", []int64{-1 << 63, 1<<63 - 1}, 10},
		{"mov r0 5;mov r1 r0;mov r0 6;out r1;out r0;", []int64{5, 6}, 10}, {"mov r0 1;mov r1 2;mov r2 3;mov r3 4;mov r4 5;mov r5 6;mov r6 7;mov r7 8;out r0;out r1;out r2;out r3;out r4;out r5;out r6;out r7;", []int64{1, 2, 3, 4, 5, 6, 7, 8}, 10},
		{"mov r1 9;mov r2 4;sub r1 r1 r2;out r1;sub r2 r2 r2;out r2;", []int64{5, 0}, 10}, {"div r0 " + least + " -1;out r0;mod r1 " + least + " -1;out r1;", []int64{-1 << 63, 0}, 10}, {"out 1;div r0 1 0;out 2;", []int64{1}, 1}, {"out 1;mod r0 r1 r2;out 2;", []int64{1}, 1},
		{"trap 1;out 1;", nil, 1}, {"trap 2;", nil, 2}, {"trap 9;", nil, 9}, {"out 3;trap 5;halt;", []int64{3}, 5},
		{"jmp 2;out 1;out 2;", []int64{2}, 10}, {"jz 0 2;out 1;out 2;", []int64{2}, 10}, {"jz -1 2;out 1;out 2;", []int64{1, 2}, 10}, {"jz r0 2;out 1;jz 256 4;out 2;out 3;", []int64{2, 3}, 10}, {"jmp 4000;out 1;", nil, 10}, {"jz 0 2;out 1;", nil, 10}, {"out 1;jz r0 4;out 2;halt;mov r0 1;jmp 0;", []int64{1, 1, 2}, 10},
		{"store 0 0 4;store 255 0 5;load r0 0 0;out r0;load r0 255 0;out r0;", []int64{4, 5}, 10}, {"mov r1 200;store r1 55 7;load r0 r1 55;out r0;load r0 255 0;out r0;", []int64{7, 7}, 10}, {"load r0 256 -1;out r0;load r0 -1 1;out r0;", []int64{0, 0}, 10},
		{"load r0 -1 0;out 1;", nil, 9}, {"load r0 256 0;out 1;", nil, 9}, {"load r0 0 -1;", nil, 9}, {"load r0 255 1;", nil, 9}, {"store -1 0 1;out 1;", nil, 9}, {"store 256 0 1;", nil, 9}, {"cas r0 -1 0 0 1;out 1;", nil, 9}, {"cas r0 256 0 0 1;", nil, 9}, {"xadd r0 -1 0 1;out 1;", nil, 9}, {"xadd r0 256 0 1;", nil, 9},
		{"store 0 0 4;load r0 " + least + " " + least + ";out r0;", []int64{4}, 10}, {"store 255 0 4;load r0 " + most + " -9223372036854775552;out r0;", []int64{4}, 10}, {"load r0 " + most + " -9223372036854775551;", nil, 9}, {"load r0 " + most + " 1;", nil, 9}, {"load r0 " + least + " -1;", nil, 9}, {"store " + least + " " + least + " 8;load r0 0 0;out r0;", []int64{8}, 10},
		{"cas r0 7 0 0 5;out r0;load r1 7 0;out r1;cas r0 7 0 0 6;out r0;load r1 7 0;out r1;", []int64{1, 5, 0, 5}, 10}, {"store 7 0 3;cas r0 7 0 3 4;out r0;load r0 7 0;out r0;", []int64{1, 4}, 10}, {"mov r3 7;mov r4 9;cas r3 r3 0 r5 r3;out r3;load r0 7 0;out r0;", []int64{1, 7}, 10}, {"mov r3 7;cas r3 r3 0 r3 1;out r3;load r0 7 0;out r0;", []int64{0, 0}, 10},
		{"xadd r0 7 0 5;out r0;xadd r0 7 0 -8;out r0;load r0 7 0;out r0;", []int64{0, 5, -3}, 10}, {"store 7 0 " + most + ";xadd r0 7 0 1;out r0;load r0 7 0;out r0;", []int64{1<<63 - 1, -1 << 63}, 10}, {"mov r0 7;xadd r0 r0 0 r0;out r0;load r1 7 0;out r1;", []int64{0, 7}, 10},
	} {
		m := load(t, "thread;"+c.code)
		for range 50 {
			m.Step(0)
		}
		if got := m.Out(0); !slices.Equal(got, c.out) || m.State(0) != c.state {
			t.Errorf("%q: gives out %v, state %d, want %v, %d", c.code, got, m.State(0), c.out, c.state)
		}
	}
}

// P2: every operation, of two numbers, of two registers, and of one that it changes.
func TestOperations(t *testing.T) {
	const least, most = math.MinInt64, math.MaxInt64
	for _, c := range []struct {
		op         string
		a, b, want int64
	}{
		{"add", most, 1, least}, {"sub", least, 1, most}, {"mul", most, 2, -2}, {"div", -7, 2, -3}, {"div", least, -1, least}, {"mod", -7, 2, -1}, {"mod", 7, -2, 1}, {"mod", least, -1, 0},
		{"and", 12, 10, 8}, {"or", 12, 10, 14}, {"xor", 12, 10, 6}, {"shl", 1, 63, least}, {"shl", 1, 40, 1 << 40}, {"shl", 5, 65, 10}, {"shl", 1, -1, least}, {"shr", least, 63, -1}, {"shr", 8, 64, 8}, {"shr", -9, 1, -5},
		{"lt", -1, 0, 1}, {"lt", 0, 0, 0}, {"lt", most, least, 0}, {"eq", least, least, 1}, {"eq", 1, -1, 0},
	} {
		a, b := strconv.FormatInt(c.a, 10), strconv.FormatInt(c.b, 10)
		m := load(t, "thread;"+c.op+" r0 "+a+" "+b+";out r0;mov r1 "+a+";mov r2 "+b+";"+c.op+" r3 r1 r2;out r3;"+c.op+" r2 r1 r2;out r2;"+c.op+" r1 r1 "+b+";out r1;")
		pick(m, strings.Repeat("0", 11))
		if got := m.Out(0); !slices.Equal(got, []int64{c.want, c.want, c.want, c.want}) || m.State(0) != api.Halted {
			t.Errorf("%s %d %d: %v, state %d, want %d", c.op, c.a, c.b, got, m.State(0), c.want)
		}
	}
}

// P4: one instruction a step, and one more step to be halted behind the last one.
func TestSteps(t *testing.T) {
	m := load(t, "thread;out 1;jmp 0;")
	for n := range 9 {
		if len(m.Out(0)) != (n+1)/2 || m.State(0) != api.Runs {
			t.Errorf("behind %d steps: %v, state %d", n, m.Out(0), m.State(0))
		}
		m.Step(0)
	}
	m = load(t, "thread;out 1;thread;halt;thread;jz 0 1;")
	pick(m, "012")
	if m.State(0) != api.Runs || m.State(1) != api.Halted || m.State(2) != api.Runs {
		t.Errorf("a step each: states %d %d %d", m.State(0), m.State(1), m.State(2))
	}
	pick(m, "012")
	if m.State(0) != api.Halted || m.State(2) != api.Halted {
		t.Errorf("two steps each: states %d %d", m.State(0), m.State(2))
	}
}

// P4: the last place of the longest thread, and the one behind it.
func TestLongThread(t *testing.T) {
	for _, c := range []struct {
		first string
		out   int
		steps int
	}{{"jmp 3999;", 1, 3}, {"jmp 4000;", 0, 2}, {"jz 0 4000;", 0, 2}, {"jz 1 4000;", 3999, 4001}} {
		m := load(t, "thread;"+c.first+strings.Repeat("out 1;", 3999))
		for n := range c.steps {
			if m.State(0) != api.Runs {
				t.Errorf("%q: state %d behind %d steps", c.first, m.State(0), n)
			}
			m.Step(0)
		}
		if m.State(0) != api.Halted || len(m.Out(0)) != c.out {
			t.Errorf("%q: state %d, gives out %d, want %d", c.first, m.State(0), len(m.Out(0)), c.out)
		}
	}
}

// P4: what waits, who sees it, and when it is in the memory.
func TestWaiting(t *testing.T) {
	const five = "thread;store 1 0 11;store 2 0 12;store 3 0 13;store 4 0 14;store 5 0 15;store 1 0 16;load r0 1 0;out r0;"
	const full = "thread;store 1 0 11;store 2 0 12;store 1 0 13;store 4 0 14;"
	for _, c := range []struct {
		code, picks string
		out         []int64 // of thread 0
		cells       []int64 // 1 to 5
		wait, state int
	}{
		{five, "0000", nil, []int64{0, 0, 0, 0, 0}, 4, 0}, {five, "00000", nil, []int64{11, 0, 0, 0, 0}, 4, 0}, {five, "000000", nil, []int64{11, 12, 0, 0, 0}, 4, 0}, {five, "00000000", []int64{16}, []int64{11, 12, 0, 0, 0}, 4, 0}, {five, "0000f00000f0f0f0f0f0", []int64{16}, []int64{16, 12, 13, 14, 15}, 0, 0}, {five, "00f0f0f0", nil, []int64{11, 12, 0, 0, 0}, 0, 0}, {five, "000f0", nil, []int64{11, 0, 0, 0, 0}, 2, 0}, {five, "00000f0f0f0", nil, []int64{11, 12, 13, 14, 0}, 1, 0},
		{full + "fence;", "00000", nil, []int64{13, 12, 0, 14, 0}, 0, 0}, {full + "cas r0 9 0 1 1;out r0;", "000000", []int64{0}, []int64{13, 12, 0, 14, 0}, 0, 0}, {full + "xadd r0 1 0 5;out r0;", "000000", []int64{13}, []int64{18, 12, 0, 14, 0}, 0, 0}, {full + "cas r0 1 0 13 20;", "00000", nil, []int64{20, 12, 0, 14, 0}, 0, 0},
		{full + "store -1 0 1;", "00000", nil, []int64{0, 0, 0, 0, 0}, 4, 9}, {full + "load r0 256 0;", "00000", nil, []int64{0, 0, 0, 0, 0}, 4, 9}, {full + "cas r0 256 0 0 1;", "00000", nil, []int64{13, 12, 0, 14, 0}, 0, 9}, {full + "xadd r0 -1 0 1;", "00000", nil, []int64{13, 12, 0, 14, 0}, 0, 9},
		{full + "halt;", "00000f0f0", nil, []int64{11, 12, 0, 0, 0}, 2, 10}, {full + "trap 4;fence;", "000000f0", nil, []int64{11, 0, 0, 0, 0}, 3, 4}, {full + "div r0 1 0;", "00000f0f0f0f0f0", nil, []int64{13, 12, 0, 14, 0}, 0, 1}, {full, "00000f0", nil, []int64{11, 0, 0, 0, 0}, 3, 10},
		{full + "thread;load r0 1 0;store 2 0 r0;fence;", "0000111", nil, []int64{0, 0, 0, 0, 0}, 4, 0}, {full + "thread;load r0 1 0;store 2 0 r0;fence;", "00f00111", nil, []int64{11, 11, 0, 0, 0}, 2, 0}, {full + "thread;fence;", "0001f1", nil, []int64{0, 0, 0, 0, 0}, 3, 0},
		{"thread;store 1 0 5;load r0 1 0;out r0;load r0 1 0;out r0;thread;xadd r0 1 0 7;", "000100", []int64{5, 5}, []int64{7, 0, 0, 0, 0}, 1, 0}, {"thread;store 1 0 5;load r0 1 0;out r0;load r0 1 0;out r0;thread;xadd r0 1 0 7;", "000f0100", []int64{5, 12}, []int64{12, 0, 0, 0, 0}, 0, 0}, {"thread;cas r0 1 0 0 5;out r0;thread;cas r0 1 0 0 6;", "100", []int64{0}, []int64{6, 0, 0, 0, 0}, 0, 0},
	} {
		m := load(t, c.code)
		pick(m, c.picks)
		var cells []int64
		for at := 1; at <= 5; at++ {
			cells = append(cells, m.Peek(at))
		}
		if got := m.Out(0); !slices.Equal(got, c.out) || !slices.Equal(cells, c.cells) || m.Waiting(0) != c.wait || m.State(0) != c.state {
			t.Errorf("%q, %q: out %v, cells %v, %d wait, state %d, want %v, %v, %d, %d", c.code, c.picks, got, cells, m.Waiting(0), m.State(0), c.out, c.cells, c.wait, c.state)
		}
	}
}

// P4: the document's two threads that store and then look: both may see nothing, but not behind fences.
func TestStoreAndLook(t *testing.T) {
	const bare = "thread;store 1 0 1;load r0 2 0;out r0;thread;store 2 0 1;load r0 1 0;out r0;"
	m := load(t, bare)
	if pick(m, "000111"); !slices.Equal(m.Out(0), []int64{0}) || !slices.Equal(m.Out(1), []int64{0}) {
		t.Errorf("no fences: %v, %v", m.Out(0), m.Out(1))
	}
	fenced := strings.ReplaceAll(bare, "1;load", "1;fence;load")
	for order := range 1 << 8 {
		m := load(t, fenced)
		for i := range 8 {
			m.Step(order >> i & 1)
		}
		pick(m, "00001111")
		if m.Out(0)[0] == 0 && m.Out(1)[0] == 0 {
			t.Errorf("fences, order %08b: both have given out 0", order)
		}
	}
}

// P5: threads and cells that are not there.
func TestNotThere(t *testing.T) {
	m := load(t, "thread;store 0 0 7;store 255 0 8;out 1;thread;out 2;")
	for _, k := range []int{-1, 2, 3, 1 << 40, 1<<63 - 1, -1 << 63} {
		m.Step(k)
		m.Flush(k)
		if l := m.Out(k); l != nil || m.State(k) != api.Halted || m.Waiting(k) != 0 {
			t.Errorf("thread %d: %v, state %d, %d wait", k, l, m.State(k), m.Waiting(k))
		}
	}
	if pick(m, "000f0f01"); !slices.Equal(m.Out(0), []int64{1}) || !slices.Equal(m.Out(1), []int64{2}) {
		t.Errorf("gives out %v, %v", m.Out(0), m.Out(1))
	}
	for at, want := range map[int]int64{0: 7, 255: 8, -1: 0, 256: 0, 1 << 40: 0, 1<<63 - 1: 0, -1 << 63: 0} {
		if got := m.Peek(at); got != want {
			t.Errorf("Peek(%d) = %d, want %d", at, got, want)
		}
	}
}

// The document's first table of examples, as far as the tests above have not done it.
func TestExamples(t *testing.T) {
	m := load(t, "thread;store 1 0 5;load r0 1 0;out r0;")
	if pick(m, "000"); !slices.Equal(m.Out(0), []int64{5}) || m.Peek(1) != 0 || m.Waiting(0) != 1 {
		t.Errorf("%v, %d, %d wait", m.Out(0), m.Peek(1), m.Waiting(0))
	}
	if m.Flush(0); m.Peek(1) != 5 || m.Waiting(0) != 0 {
		t.Errorf("behind the flush: %d, %d wait", m.Peek(1), m.Waiting(0))
	}
	m = load(t, "thread;mov r0 -1;load r1 r0 0;")
	if pick(m, "000"); m.State(0) != 9 {
		t.Errorf("state %d, want 9", m.State(0))
	}
	m = load(t, "thread;jz 0 7;")
	if pick(m, "00"); m.State(0) != 10 {
		t.Errorf("state %d, want 10", m.State(0))
	}
}
