package sched_test

import (
	"testing"

	"gaffer/api"
	"gaffer/booktest"
	"gaffer/sched"
)

// asked are books of which something is answered, and one that is not right.
func asked() map[string]api.Book {
	list := booktest.RightBooks()
	full := booktest.Full()
	full.Binds = full.Binds[:9]
	list["many wait"] = full
	none := booktest.Full()
	none.Binds = nil
	list["all wait"] = none
	list["of no node"] = booktest.With(func(b *api.Book) { b.Binds[0].Node = "z" })
	return list
}

// 12.2: an answer is new memory, and what is handed in is neither changed nor kept.
func TestNewMemory(t *testing.T) {
	calls := map[string]booktest.Call{
		"Plan": func(b api.Book, _ api.Order) (api.Book, api.Told) {
			l, why := sched.Plan(b, 6)
			var c api.Book
			for _, o := range l {
				c.Nodes, c.Tasks = append(c.Nodes, o.Node), append(c.Tasks, o.Task)
				c.Binds = append(c.Binds, api.Bind{Task: o.Name, Node: o.On})
			}
			return c, api.Told{Why: why}
		},
		"Quiet": func(b api.Book, _ api.Order) (api.Book, api.Told) {
			quiet, why := sched.Quiet(b)
			if quiet {
				return api.Book{Fence: 1}, api.Told{Why: why}
			}
			return api.Book{}, api.Told{Why: why}
		},
	}
	for what, call := range calls {
		for which, b := range asked() {
			if s := booktest.Shares(b, api.Order{}, call); s != "" {
				t.Errorf("%s, %s: %s", what, which, s)
			}
		}
	}
}

// 12.2: a plan's list is not that of another one.
func TestLasts(t *testing.T) {
	for which, b := range asked() {
		if !booktest.Lasts(func() []api.Order { l, _ := sched.Plan(b, 6); return l }, same) {
			t.Errorf("%s: two answers share memory", which)
		}
	}
}
