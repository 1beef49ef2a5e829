package weighed

import "testing"

// TestHeapTellsTheLightest: whatever goes in when, the lightest comes out.
func TestHeapTellsTheLightest(t *testing.T) {
	var h Heap[int]
	for k := range 31 {
		h.Add(k, 1+k*17%31)
	}
	for want := 1; want <= 31; want++ {
		if k, ok := h.Take(); !ok || 1+k*17%31 != want {
			t.Fatalf("Take = %d, %v, which weighs %d, want the weight %d", k, ok, 1+k*17%31, want)
		}
	}
	if k, ok := h.Take(); ok || k != 0 {
		t.Errorf("Take of none = %d, %v", k, ok)
	}
}

// TestHeapBetween: what goes in between is taken in its turn.
func TestHeapBetween(t *testing.T) {
	var h Heap[string]
	for _, c := range []struct {
		add    string
		weight int
		want   string
	}{{"five", 5, "five"}, {"nine", 9, ""}, {"two", 2, "two"}, {"seven", 7, "seven"}, {"ten", 10, "nine"}, {"", 0, "ten"}} {
		if c.add != "" {
			h.Add(c.add, c.weight)
		}
		if c.want == "" {
			continue
		}
		if got, ok := h.Take(); !ok || got != c.want {
			t.Fatalf("Take = %q, %v, want %q", got, ok, c.want)
		}
	}
}
