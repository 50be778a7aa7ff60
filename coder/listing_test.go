package coder

import "testing"

// TestLeaps: a leap leads to the place where what it answered is called, whatever was added between.
func TestLeaps(t *testing.T) {
	var l listing
	outer := l.leap("jz", "r4")
	again := l.place()
	l.add("out", "1")
	inner := l.leap("jmp")
	l.back(again)
	inner()
	l.add("halt")
	outer()
	if got, want := l.text(), "jz r4 5\nout 1\njmp 4\njmp 1\nhalt\n"; got != want {
		t.Errorf("%q, want %q", got, want)
	}
}
