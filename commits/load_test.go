package commits_test

import (
	"errors"
	"strings"
	"testing"

	"commits/api"
	"commits/commits"
)

// lines: a semicolon is a line's end.
func lines(s string) string { return strings.ReplaceAll(s, ";", "\n") }

// checkFault sees to it that Load answers just that fault, or a machine where e is OK.
func checkFault(t *testing.T, code string, e api.Errno, line int) {
	t.Helper()
	m, err := commits.Load(code)
	if e == api.OK {
		if m == nil || err != nil {
			t.Errorf("Load(%.60q) of %d bytes: %v", code, len(code), err)
		}
		return
	}
	var f *api.Fault
	if m != nil || !errors.As(err, &f) || f.Err != e || f.Line != line {
		t.Errorf("Load(%.60q) of %d bytes: machine %v, %v, want error %d in line %d", code, len(code), m != nil, err, e, line)
	}
	for k := api.OK; k <= api.ErrLimit; k++ {
		if errors.Is(err, k) != (k == e) {
			t.Errorf("Load(%.60q): errors.Is of %d: %v", code, k, k != e)
		}
	}
}

// P2: every instruction, with registers and numbers wherever both may stand.
func TestInstructions(t *testing.T) {
	for _, s := range []string{
		"mov r0 r7", "mov r7 0", "load r0 r1 5", "load r0 5 -1", "store r1 0 r2", "store 1 0 2", "cas r0 r1 0 r2 r3", "cas r0 1 0 2 3", "xadd r0 r1 0 r2", "xadd r0 1 0 2",
		"fence", "out r0", "out -3", "jmp 0", "jmp 4000", "jz r0 0", "jz 5 4000", "trap 1", "trap 9", "halt",
		"mov r0 9223372036854775807", "mov r0 -9223372036854775808", "load r0 9223372036854775807 -9223372036854775808",
	} {
		checkFault(t, "thread\n"+s+"\n", api.OK, 0)
	}
	for _, op := range strings.Fields("add sub mul div mod and or xor shl shr lt eq") {
		for _, s := range []string{" r0 r1 r2", " r7 1 r2", " r0 r1 2", " r0 -1 2"} {
			checkFault(t, "thread\n"+op+s+"\n", api.OK, 0)
		}
		for _, s := range []string{"", " r0", " r0 1", " r0 1 2 3", " 0 1 2", " r8 1 2", " r0 r8 2", " r0 1 x"} {
			checkFault(t, "thread\n"+op+s+"\n", api.ErrSyntax, 2)
		}
	}
}

// P2: lines that are no instructions.
func TestWrongLines(t *testing.T) {
	for _, s := range []string{
		"", " ", "x", "HALT", "halt ", " halt", "halt\t", "halt\r", "halt\x00", "halt halt", "fence 1", "nop", "le r0 1 2", "+ r0 1 2", "\xff", "h\u00e4lt",
		"mov", "mov r0", "mov r0 ", "mov r0 1 ", "mov r0  1", "mov\tr0 1", "mov 0 1", "mov r8 1", "mov r9 1", "mov r-1 1", "mov r 1", "mov r10 1", "mov r00 1", "mov R0 1", "mov r0 r8", "mov r0 r", "mov r0 x", "mov r0 1 1",
		"mov r0 -", "mov r0 -0", "mov r0 00", "mov r0 07", "mov r0 -07", "mov r0 +7", "mov r0 0x7", "mov r0 7_0", "mov r0 7.0", "mov r0 --7", "mov r0 \u0663", "mov r0 9223372036854775808", "mov r0 -9223372036854775809", "mov r0 99999999999999999999",
		"load", "load r0", "load r0 1", "load r0 1 r1", "load 1 1 1", "load r0 1 1 1", "store", "store 1", "store 1 0", "store 1 r1 0", "store 1 0 0 0", "store x 0 0", "store 1 0 x",
		"cas", "cas r0 1 0 1", "cas r0 1 0 1 2 3", "cas 1 1 0 1 2", "cas r0 1 r1 1 2", "cas r0 1 0 x 2", "cas r0 1 0 1 x", "xadd", "xadd r0 1 0", "xadd r0 1 0 1 2", "xadd 1 1 0 1", "xadd r0 1 r1 1", "xadd r0 1 0 x",
		"out", "out 1 2", "out x", "jmp", "jmp r0", "jmp -1", "jmp 4001", "jmp 00", "jmp 0 0", "jmp 9223372036854775807", "jz", "jz 1", "jz r0 r0", "jz r0 -1", "jz r0 4001", "jz x 1", "jz r0 1 1",
		"trap", "trap 0", "trap 10", "trap -1", "trap r1", "trap 01", "trap 1 1", "halt 1", "thread 1", "thread ", " thread", "Thread", "threads",
	} {
		checkFault(t, "thread\n"+s+"\nhalt\n", api.ErrSyntax, 2)
	}
}

// P2: where a code begins and ends, and what comes ahead of what.
func TestWrongCodes(t *testing.T) {
	for _, c := range []struct {
		code string
		e    api.Errno
		line int
	}{
		{"", api.ErrSyntax, 1}, {"\n", api.ErrSyntax, 1}, {"thread", api.ErrSyntax, 1}, {"thread\nhalt", api.ErrSyntax, 2}, {"thread\n\n", api.ErrSyntax, 2}, {"thread\r\nhalt\r\n", api.ErrSyntax, 1}, {"\nthread\n", api.ErrSyntax, 1},
		{"thread\n", api.OK, 0}, {"thread\nthread\nthread\n", api.OK, 0},
		{"halt\n", api.ErrPlace, 1}, {"halt\nthread\n", api.ErrPlace, 1}, {"halt\nx\n", api.ErrPlace, 1}, {"halt 1\n", api.ErrSyntax, 1}, {"halt", api.ErrSyntax, 1}, {"jmp 4001\n", api.ErrSyntax, 1},
		{"thread\nthread\nthread\nthread\n", api.ErrLimit, 4}, {"thread\nthread\nthread\nhalt\nthread\nx\n", api.ErrLimit, 5}, {"thread\nthread\nthread\nthread", api.ErrSyntax, 4}, {"thread\nthread\nthread\nthread 1\n", api.ErrSyntax, 4}, {"thread\nx\nthread\nthread\nthread\n", api.ErrSyntax, 2},
	} {
		checkFault(t, c.code, c.e, c.line)
	}
	full := "thread\n" + strings.Repeat("halt\n", api.MaxIns)
	for _, c := range []struct {
		behind string
		e      api.Errno
		line   int
	}{
		{"", api.OK, 0}, {"halt\n", api.ErrLimit, 4002}, {"halt\nx\n", api.ErrLimit, 4002}, {"halt", api.ErrSyntax, 4002}, {"x\n", api.ErrSyntax, 4002}, {"jmp 4001\n", api.ErrSyntax, 4002},
		{full + full, api.OK, 0}, {full + full + "halt\n", api.ErrLimit, 3*4001 + 1}, {full + full + "thread\n", api.ErrLimit, 3*4001 + 1}, {full + "halt\n" + full, api.ErrLimit, 2*4001 + 1},
	} {
		checkFault(t, full+c.behind, c.e, c.line)
	}
}

// codeOf is a code of just so many bytes (some hundred at least).
func codeOf(size int) string {
	var b strings.Builder
	b.WriteString("thread\n")
	for size-b.Len() >= 100 {
		b.WriteString("xadd r0 -9223372036854775808 -9223372036854775808 -9223372036854775808\n")
	}
	for (size-b.Len())%5 != 0 {
		b.WriteString("fence\n")
	}
	for b.Len() < size {
		b.WriteString("halt\n")
	}
	return b.String()
}

// P2: the length counts ahead of all else.
func TestLong(t *testing.T) {
	if n := len(codeOf(131072)); n != 131072 {
		t.Fatalf("the test's code has %d bytes", n)
	}
	checkFault(t, codeOf(131072), api.OK, 0)
	checkFault(t, codeOf(131073), api.ErrLong, 0)
	checkFault(t, codeOf(131072)+"\n", api.ErrLong, 0)
	for _, s := range []string{"x", " ", "\n", "\x00"} {
		checkFault(t, strings.Repeat(s, 131072), api.ErrSyntax, 1)
		checkFault(t, strings.Repeat(s, 131073), api.ErrLong, 0)
	}
}
