package book

import (
	"cmp"
	"slices"

	"gaffer/api"
)

// The three lists of a book rise by names that these tell; so one is found in a list by halving.
func nodeName(n api.Node) string { return n.Name }
func taskName(t api.Task) string { return t.Name }
func bindName(b api.Bind) string { return b.Task }

func rise[T any](l []T, name func(T) string) bool {
	for i := range l {
		if i > 0 && name(l[i-1]) >= name(l[i]) {
			return false
		}
	}
	return true
}

func right[T any](l []T, most int, check func(T) api.Errno, name func(T) string) bool {
	wrong := func(one T) bool { return check(one) != api.OK }
	return len(l) <= most && !slices.ContainsFunc(l, wrong) && rise(l, name)
}

// find tells the place at which one of that name is, or would be.
func find[T any](l []T, name func(T) string, want string) (int, bool) {
	return slices.BinarySearchFunc(l, want, func(one T, want string) int { return cmp.Compare(name(one), want) })
}

func get[T any](l []T, name func(T) string, want string) (T, bool) {
	at, there := find(l, name, want)
	if !there {
		var none T
		return none, false
	}
	return l[at], true
}

// add and drop may write into l, which must be the caller's own.
func add[T any](l []T, name func(T) string, most int, one T) ([]T, api.Errno) {
	at, there := find(l, name, name(one))
	switch {
	case there:
		return l, api.ErrTwice
	case len(l) >= most:
		return l, api.ErrFull
	}
	return slices.Insert(l, at, one), api.OK
}

func drop[T any](l []T, name func(T) string, want string) []T {
	at, there := find(l, name, want)
	if !there {
		return l
	}
	return slices.Delete(l, at, at+1)
}

func clone(b api.Book) api.Book {
	b.Nodes = cloneEach(b.Nodes, cloneNode)
	b.Tasks = cloneEach(b.Tasks, cloneTask)
	b.Binds = slices.Clone(b.Binds)
	return b
}

func cloneEach[T any](l []T, one func(T) T) []T {
	l = slices.Clone(l)
	for i := range l {
		l[i] = one(l[i])
	}
	return l
}

func cloneNode(n api.Node) api.Node {
	n.Labels, n.Taints = slices.Clone(n.Labels), slices.Clone(n.Taints)
	return n
}

func cloneTask(t api.Task) api.Task {
	t.Wants, t.Bears = slices.Clone(t.Wants), slices.Clone(t.Bears)
	return t
}
