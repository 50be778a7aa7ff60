package coder

import (
	"strconv"
	"strings"
)

// listing has the instructions of a thread, as far as they are written.
type listing struct {
	lines []string
}

func (l *listing) add(words ...string) { l.lines = append(l.lines, strings.Join(words, " ")) }

// place is where the next instruction will stand.
func (l *listing) place() int { return len(l.lines) }

// leap adds a leap to a place that is not known yet. What it answers is to be called where that place is come to.
func (l *listing) leap(words ...string) func() {
	at := l.place()
	l.add(words...)
	return func() { l.lines[at] += " " + strconv.Itoa(l.place()) }
}

// back adds a leap to a place that is known.
func (l *listing) back(place int) { l.add("jmp", strconv.Itoa(place)) }

func (l *listing) text() string { return strings.Join(l.lines, "\n") + "\n" }
