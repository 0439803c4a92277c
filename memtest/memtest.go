// Package memtest is for tests alone: it tells whether what a call answers is new memory, and what it is given stays as it was.
package memtest

import "slices"

// Kind says of things of a type how their lists are gone through, and when two of them are the same.
type Kind[T any] struct {
	Visit func(v *Visitor, one *T)
	Same  func(a, b T) bool
}

// Visitor goes through all lists of something.
type Visitor struct {
	anew  bool // makes each of them anew
	room  int  // with so much room behind its end, in which something stands
	lists []list
}

// list is one that was gone to, with the room behind it.
type list struct {
	fill  func(n int)      // writes the n-th mark all over it
	bears func(n int) bool // tells whether that stands all over it
	stays func() bool      // tells whether it is as it was when it was gone to
}

// List goes to a list, and behind it, by inner, to those of each that stands in it. Of mark each number makes another one that may stand there.
func List[T any](v *Visitor, l *[]T, mark func(n int) T, same func(a, b T) bool, inner func(one *T)) {
	if v.anew {
		many := len(*l)
		*l = append(slices.Clone(*l), slices.Repeat([]T{mark(0)}, v.room)...)[:many]
	}
	v.lists = append(v.lists, hold((*l)[:cap(*l)], mark, same))
	for i := range *l {
		inner(&(*l)[i])
	}
}

// Plain is a List of what has no lists.
func Plain[T comparable](v *Visitor, l *[]T, mark func(n int) T) {
	List(v, l, mark, func(a, b T) bool { return a == b }, func(*T) {})
}

func hold[T any](l []T, mark func(n int) T, same func(a, b T) bool) list {
	was := slices.Clone(l)
	return list{
		fill: func(n int) {
			for i := range l {
				l[i] = mark(n)
			}
		},
		bears: func(n int) bool {
			return !slices.ContainsFunc(l, func(one T) bool { return !same(one, mark(n)) })
		},
		stays: func() bool { return slices.EqualFunc(l, was, same) },
	}
}

// Anew asks call twice, of a copy of args with room behind each list, and tells what it answers, and what is wrong with that, or nothing: what is handed in is to stay as it was, the room behind it, too; both answers are to be the same; and no two lists of all these are to share memory.
func Anew[A, B any](args A, in Kind[A], call func(A) B, out Kind[B]) (B, string) {
	given, told := Visitor{anew: true, room: 2}, Visitor{}
	in.Visit(&given, &args)
	first, second := call(args), call(args)
	answer := Clone(first, out)
	out.Visit(&told, &first)
	out.Visit(&told, &second)
	switch {
	case slices.ContainsFunc(given.lists, func(l list) bool { return !l.stays() }):
		return answer, "what was handed in is changed"
	case !out.Same(first, second):
		return answer, "asked again it is another one"
	case !apart(slices.Concat(given.lists, told.lists)):
		return answer, "two lists share memory"
	}
	return answer, ""
}

// Clone has memory of its own.
func Clone[T any](one T, kind Kind[T]) T {
	kind.Visit(&Visitor{anew: true}, &one)
	return one
}

// Apart tells whether no two lists of one share memory, or the room behind them. It writes all over them.
func Apart[T any](one T, kind Kind[T]) bool {
	var v Visitor
	kind.Visit(&v, &one)
	return apart(v.lists)
}

func apart(l []list) bool {
	for i := range l {
		l[i].fill(1 + i)
	}
	for i := range l {
		if !l[i].bears(1 + i) {
			return false
		}
	}
	return true
}
