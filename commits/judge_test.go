package commits_test

import (
	"regexp"
	"strconv"
	"strings"

	"commits/api"
)

// judge tells the first fault of a program, straight from the document's words: against it Compile is held.
func judge(s string) (api.Errno, int) {
	if len(s) > 2000 {
		return api.ErrLong, 0
	}
	all := strings.SplitAfter(s, "\n")
	if len(all) > 1 && all[len(all)-1] == "" {
		all = all[:len(all)-1]
	}
	j := &judging{shared: map[string]int{}}
	for i, line := range all {
		if !j.wellFormed(line) {
			return api.ErrSyntax, i + 1
		}
		if e := j.line(strings.Fields(line)); e != api.OK {
			return e, i + 1
		}
	}
	if j.threads == 0 || len(j.open) > 0 {
		return api.ErrPlace, len(all) + 1
	}
	if j.cells > 6 || j.threads > 3 || j.tooMany {
		return api.ErrLimit, 0
	}
	return api.OK, 0
}

// opened is an atomic, an if or a loop that is not ended, and how often it is done.
type opened struct {
	word  string
	times int
}

type judging struct {
	shared                 map[string]int
	cells, threads         int
	locals                 map[string]bool // of the last thread, as all that follows
	open                   []opened
	count, blocks, giveOut int
	tooMany                bool
}

const (
	aName  = `[a-z]{1,6}`
	aValue = `([a-z]{1,6}|0|-?[1-9][0-9]*)`
)

var forms = regexp.MustCompile(`^(shared ` + aName + `( [1-6])?|thread|set ` + aName + ` ` + aValue + `( ([-+*/%&|^<]|<<|>>|==) ` + aValue + `)?|get ` + aName + ` ` + aName + `( at ` + aValue + `)?|put ` + aName + ` ` + aValue + `( at ` + aValue + `)?|out ` + aValue + `|atomic|if ` + aValue + `|loop [1-4]|end)\n$`)

var numerals = regexp.MustCompile(`^-?[0-9]+$`)

func (j *judging) wellFormed(line string) bool {
	if !forms.MatchString(line) {
		return false
	}
	for _, word := range strings.Fields(line) {
		if _, err := strconv.ParseInt(word, 10, 64); err != nil && numerals.MatchString(word) {
			return false
		}
	}
	return true
}

func (j *judging) line(w []string) api.Errno {
	switch w[0] {
	case "shared":
		return j.declare(w)
	case "thread":
		if len(j.open) > 0 {
			return api.ErrPlace
		}
		j.threads++
		j.locals, j.count, j.blocks = map[string]bool{}, 0, 0
		return api.OK
	case "end":
		if len(j.open) == 0 {
			return api.ErrPlace
		}
		j.open = j.open[:len(j.open)-1]
		return api.OK
	}
	switch {
	case j.misplaced(w):
		return api.ErrPlace
	case j.misnamed(w):
		return api.ErrName
	case j.exceeds(w):
		return api.ErrLimit
	}
	j.take(w)
	return api.OK
}

func (j *judging) declare(w []string) api.Errno {
	if j.threads > 0 {
		return api.ErrPlace
	}
	if j.shared[w[1]] > 0 {
		return api.ErrName
	}
	n := 1
	if len(w) > 2 {
		n, _ = strconv.Atoi(w[2])
	}
	j.shared[w[1]] = n
	j.cells += n
	return api.OK
}

// block is how many of what is open stand ahead of the block that is open, or -1.
func (j *judging) block() int {
	for i, o := range j.open {
		if o.word == "atomic" {
			return i
		}
	}
	return -1
}

func (j *judging) misplaced(w []string) bool {
	in := j.block() >= 0
	return j.threads == 0 || (w[0] == "get" || w[0] == "put") && !in || w[0] == "atomic" && in
}

// parts are the names of a statement: the local variable that it sets, the shared one that it speaks of, the words that it reads.
func parts(w []string) (sets, of string, reads []string) {
	switch w[0] {
	case "set":
		sets, reads = w[1], []string{w[2]}
	case "get":
		sets, of = w[1], w[2]
	case "put":
		of, reads = w[1], []string{w[2]}
	case "out", "if":
		reads = []string{w[1]}
	}
	if len(w) == 5 { // behind a sign, or behind at
		reads = append(reads, w[4])
	}
	return sets, of, reads
}

func (j *judging) misnamed(w []string) bool {
	sets, of, reads := parts(w)
	for _, word := range reads {
		if word[0] >= 'a' && word[0] <= 'z' && !j.locals[word] {
			return true
		}
	}
	return sets != "" && j.shared[sets] > 0 || of != "" && j.shared[of] == 0
}

func opens(w []string) bool { return w[0] == "atomic" || w[0] == "if" || w[0] == "loop" }

func (j *judging) exceeds(w []string) bool {
	sets, _, _ := parts(w)
	return j.count >= 14 || sets != "" && !j.locals[sets] && len(j.locals) >= 4 || opens(w) && len(j.open) >= 3
}

// take counts as the text goes on: what is open says how often a line is done.
func (j *judging) take(w []string) {
	j.count++
	if sets, _, _ := parts(w); sets != "" {
		j.locals[sets] = true
	}
	switch w[0] {
	case "atomic":
		j.giveOut = 0
		j.blocks += product(j.open)
	case "out":
		if at := j.block(); at >= 0 {
			j.giveOut += product(j.open[at:])
		}
	}
	j.tooMany = j.tooMany || j.blocks > 3 || j.giveOut > 8
	if opens(w) {
		times := 1
		if w[0] == "loop" {
			times, _ = strconv.Atoi(w[1])
		}
		j.open = append(j.open, opened{w[0], times})
	}
}

func product(open []opened) int {
	n := 1
	for _, o := range open {
		n *= o.times
	}
	return n
}
