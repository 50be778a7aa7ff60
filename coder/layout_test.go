package coder

import (
	"testing"

	"commits/api"
)

// TestLayout: what belongs to different things lies in different cells, all of which are there.
func TestLayout(t *testing.T) {
	owners := map[string]string{}
	take := func(at, owner string) {
		if other, taken := owners[at]; taken {
			t.Errorf("cell %s: %s and %s", at, other, owner)
		}
		owners[at] = owner
	}
	for cell := range api.MaxCells {
		take(shared(cell), "a shared cell")
		take(version(cell), "a version")
	}
	take(clock(), "the clock")
	for thread := range api.MaxThreads {
		c := &coder{thread: thread}
		for cell := range api.MaxCells {
			take(c.own(copiesAt+cell), "a copy")
			take(c.own(putAt+cell), "whether it is put")
			take(c.own(gotAt+cell), "whether it is got")
			take(c.own(oldAt+cell), "an old version")
		}
		for local := range api.MaxLocals {
			take(c.own(savedAt+local), "a saved local variable")
		}
		for i := range api.MaxOuts {
			take(c.own(outsAt+i), "what is given out")
		}
		for i := range api.MaxDepth {
			take(c.own(roundsAt+i), "rounds")
		}
	}
	if c := (&coder{}); c.locked() == (&coder{thread: 1}).locked() {
		t.Errorf("two threads lock by %s", c.locked())
	}
	if end := ownAt + api.MaxThreads*ownCells; end > api.Cells {
		t.Errorf("%d cells", end)
	}
}
