package ring

import (
	"slices"
	"testing"

	"commits/api"
)

func backward(r *Ring[string]) []string { return slices.Collect(r.Backward()) }

func TestOrder(t *testing.T) {
	var r Ring[string]
	if out, ok := r.Pop(); ok || out != "" || r.Len() != 0 || backward(&r) != nil {
		t.Errorf("an empty ring: Pop %q %v, Len %d, %q", out, ok, r.Len(), backward(&r))
	}
	for _, s := range []string{"a", "b", "c"} {
		if out, full := r.Push(s); full || out != "" {
			t.Errorf("Push(%q) of a ring with room: %q comes out", s, out)
		}
	}
	if out, ok := r.Pop(); !ok || out != "a" {
		t.Errorf("Pop: %q %v, want a", out, ok)
	}
	if got := backward(&r); !slices.Equal(got, []string{"c", "b"}) || r.Len() != 2 {
		t.Errorf("Backward: %q of %d", got, r.Len())
	}
}

// TestRound pushes far past the last slot: the first one comes out, the others keep their order.
func TestRound(t *testing.T) {
	var r Ring[int]
	for i := range 50 {
		out, full := r.Push(i)
		if full != (i >= api.MaxStore) || full && out != i-api.MaxStore {
			t.Fatalf("Push(%d): %d %v", i, out, full)
		}
		var want []int
		for k := i; k >= 0 && k > i-api.MaxStore; k-- {
			want = append(want, k)
		}
		if got := slices.Collect(r.Backward()); !slices.Equal(got, want) {
			t.Fatalf("behind Push(%d): %v, want %v", i, got, want)
		}
	}
	for i := 46; i < 50; i++ {
		if out, ok := r.Pop(); !ok || out != i {
			t.Errorf("Pop: %d %v, want %d", out, ok, i)
		}
	}
	if _, ok := r.Pop(); ok {
		t.Error("Pop of a ring that was emptied")
	}
}

func TestBreak(t *testing.T) {
	var r Ring[int]
	r.Push(1)
	r.Push(2)
	for v := range r.Backward() {
		if v != 2 {
			t.Errorf("Backward goes on to %d", v)
		}
		break
	}
}
