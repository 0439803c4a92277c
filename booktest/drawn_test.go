package booktest_test

import (
	"slices"
	"testing"

	"gaffer/api"
	"gaffer/book"
	"gaffer/booktest"
)

// What is drawn is right, and the same of one seed; among many there is all that is asked of them.
func TestDrawn(t *testing.T) {
	var nothing, waits, nowhere, on, full int
	for seed := range uint64(300) {
		b := booktest.Drawn(seed)
		if why := book.Check(b); why != api.OK || !booktest.Same(b, booktest.Drawn(seed)) {
			t.Fatalf("seed %d: %s, error %d, or another one then", seed, booktest.Brief(b), why)
		}
		if len(b.Nodes) == 0 || len(b.Tasks) == 0 {
			nothing++
		}
		if len(b.Nodes) == api.MaxNodes && len(b.Tasks) > api.MaxTasks/2 {
			full++
		}
		on += len(b.Binds)
		for _, k := range booktest.On(b, "") {
			free := 0
			for _, n := range b.Nodes {
				fits := booktest.Fits(b, k, n)
				if fits != (book.Can(b, k.Name, n.Name) == api.OK) {
					t.Fatalf("seed %d: %s on %s: Fits says %v", seed, k.Name, n.Name, fits)
				}
				if fits {
					free++
				}
			}
			if waits++; free == 0 {
				nowhere++
			}
		}
	}
	if nothing < 10 || full < 3 || on < 300 || nowhere < 300 || waits-nowhere < 300 {
		t.Errorf("%d of nothing, %d full, %d on nodes, %d wait, of which %d can be nowhere", nothing, full, on, waits, nowhere)
	}
}

func TestOn(t *testing.T) {
	for node, want := range map[string][]string{"": {"d", "f"}, "l": nil, "m": {"b", "c"}, "n": {"a", "e"}, "z": nil} {
		var names []string
		for _, k := range booktest.On(booktest.Some(), node) {
			names = append(names, k.Name)
		}
		if !slices.Equal(names, want) {
			t.Errorf("%q: %q, not %q", node, names, want)
		}
	}
}

// What is told of answers that are new memory, and of others.
func TestLasts(t *testing.T) {
	same := func(a, b string) bool { return a == b }
	kept := []string{"a", "a", "b"}
	at := 0
	for what, one := range map[string]struct {
		ask  func() []string
		want bool
	}{
		"its own":          {func() []string { return []string{"a", "b"} }, true},
		"nothing":          {func() []string { return nil }, true},
		"one list":         {func() []string { return kept }, false},
		"the room behind":  {func() []string { at++; return kept[2-at : 3-at] }, false},
		"another one then": {func() []string { at++; return []string{"a", "b"}[at%2:] }, false},
	} {
		kept, at = []string{"a", "a", "b"}, 0
		if booktest.Lasts(one.ask, same) != one.want {
			t.Errorf("%s: told is %v", what, !one.want)
		}
	}
}
