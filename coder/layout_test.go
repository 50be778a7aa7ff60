package coder

import (
	"testing"

	"commits/api"
)

// TestLayout: what belongs to different things lies in different cells, all of which are there.
func TestLayout(t *testing.T) {
	owners := map[string]string{}
	take := func(at, owner string) {
		if other, taken := owners[at]; taken {
			t.Errorf("cell %s: %s and %s", at, other, owner)
		}
		owners[at] = owner
	}
	for cell := range api.MaxCells {
		take(shared(cell), "a shared cell")
	}
	for thread := range api.MaxThreads {
		c := &coder{thread: thread}
		for cell := range api.MaxCells {
			take(c.own(copiesAt+cell), "a copy")
			take(c.own(putAt+cell), "whether it is put")
		}
		for i := range api.MaxOuts {
			take(c.own(outsAt+i), "what is given out")
		}
		for i := range api.MaxDepth {
			take(c.own(roundsAt+i), "rounds")
		}
	}
	if end := ownAt + api.MaxThreads*ownCells; end > api.Cells {
		t.Errorf("%d cells", end)
	}
}
