package memtest_test

import (
	"slices"
	"testing"

	"gaffer/memtest"
)

// nested has lists, and lists in a list.
type nested struct {
	Name    string
	Numbers []int
	Rows    []row
}

type row struct {
	Number int
	Texts  []string
}

func kind() memtest.Kind[nested] {
	sameRow := func(a, b row) bool { return a.Number == b.Number && slices.Equal(a.Texts, b.Texts) }
	return memtest.Kind[nested]{
		Visit: func(v *memtest.Visitor, n *nested) {
			memtest.Plain(v, &n.Numbers, func(n int) int { return 1000 + n })
			memtest.List(v, &n.Rows, func(n int) row { return row{Number: 1000 + n} }, sameRow, func(r *row) {
				memtest.Plain(v, &r.Texts, func(n int) string { return string(rune(1000 + n)) })
			})
		},
		Same: func(a, b nested) bool {
			return a.Name == b.Name && slices.Equal(a.Numbers, b.Numbers) && slices.EqualFunc(a.Rows, b.Rows, sameRow)
		},
	}
}

func some() nested {
	return nested{"some", []int{1, 2, 3}, []row{{4, []string{"a", "b"}}, {5, nil}, {6, []string{"c"}}}}
}

func clone(n nested) nested { return memtest.Clone(n, kind()) }

// What is told of calls whose answers are new memory, and of others.
func TestAnew(t *testing.T) {
	kept := some()
	many := 0
	for what, one := range map[string]struct {
		call func(n nested) nested
		want string
	}{
		"a clone":           {clone, ""},
		"nothing":           {func(nested) nested { return nested{} }, ""},
		"something new":     {func(nested) nested { return some() }, ""},
		"itself":            {func(n nested) nested { return n }, "two lists share memory"},
		"a list":            {func(n nested) nested { return nested{Numbers: n.Numbers} }, "two lists share memory"},
		"a part of it":      {func(n nested) nested { return nested{Numbers: n.Numbers[1:2:2]} }, "two lists share memory"},
		"the room alone":    {func(n nested) nested { return nested{Numbers: n.Numbers[3:3]} }, "two lists share memory"},
		"a list in a list":  {func(n nested) nested { return nested{Rows: slices.Clone(n.Rows[:1])} }, "two lists share memory"},
		"an earlier answer": {func(nested) nested { return kept }, "two lists share memory"},
		"a list twice": {func(nested) nested {
			l := []string{"x", "y"}
			return nested{Rows: []row{{1, l}, {2, l[1:]}}}
		}, "two lists share memory"},
		"another one each time": {func(n nested) nested {
			many++
			return nested{Numbers: []int{many}}
		}, "asked again it is another one"},
		"a name each time": {func(n nested) nested {
			many++
			return nested{Name: string(rune(many))}
		}, "asked again it is another one"},
		"a change":               {func(n nested) nested { n.Numbers[2]++; return nested{} }, "what was handed in is changed"},
		"a change in a list":     {func(n nested) nested { n.Rows[2].Texts[0] = "x"; return nested{} }, "what was handed in is changed"},
		"a change of the room":   {func(n nested) nested { _ = append(n.Numbers, 1); return nested{} }, "what was handed in is changed"},
		"of an inner one's room": {func(n nested) nested { _ = append(n.Rows[0].Texts, "x"); return nested{} }, "what was handed in is changed"},
		"of no list's room":      {func(n nested) nested { _ = append(n.Rows[1].Texts, "x"); return nested{} }, "what was handed in is changed"},
	} {
		args := some()
		want := one.call(clone(args))
		got, wrong := memtest.Anew(args, kind(), one.call, kind())
		if wrong != one.want || wrong == "" && !kind().Same(got, want) || !kind().Same(args, some()) {
			t.Errorf("%s: %q, %v", what, wrong, got)
		}
	}
}

func TestApart(t *testing.T) {
	one := []string{"a", "b", "c"}
	for what, c := range map[string]struct {
		rows []row
		want bool
	}{
		"none":         {nil, true},
		"empty ones":   {[]row{{}, {}}, true},
		"two lists":    {[]row{{1, []string{"a"}}, {2, []string{"a"}}}, true},
		"side by side": {[]row{{1, one[:1:1]}, {2, one[1:]}}, true},
		"one":          {[]row{{1, one}, {2, one}}, false},
		"its room":     {[]row{{1, one[:1]}, {2, one[2:]}}, false},
		"no end":       {[]row{{1, one[:0]}, {2, one[1:]}}, false},
	} {
		if memtest.Apart(nested{Rows: c.rows}, kind()) != c.want {
			t.Errorf("%s: not %t", what, c.want)
		}
	}
}
