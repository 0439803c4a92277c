package core_test

import (
	"cmp"
	"reflect"
	"slices"
	"testing"

	"gaffer/api"
	"gaffer/core"
	"gaffer/coretest"
	"gaffer/logtest"
)

// anew asks call twice, of a copy of args with room behind each list, and holds 16.6 and P3: what is handed in stays as it was, the room behind it, too; no two lists of it and of both answers share memory; and both answers are the same. It is of structs whose fields are exported.
func anew[A, B any](t *testing.T, what string, args A, call func(A) B) B {
	t.Helper()
	given := roomy(reflect.ValueOf(args)).Interface().(A)
	before := whole(reflect.ValueOf(given)).Interface()
	first := call(given)
	second := call(given)
	if !reflect.DeepEqual(whole(reflect.ValueOf(given)).Interface(), before) {
		t.Errorf("%s: what was handed in is changed", what)
	}
	if !reflect.DeepEqual(first, second) {
		t.Errorf("%s: asked again it is another one", what)
	}
	if !apart(given, first, second) {
		t.Errorf("%s: two lists share memory", what)
	}
	return first
}

// room is how many more a list has room for.
const room = 2

// roomy is a copy of v in memory of its own, with room behind each list's end, in which something stands.
func roomy(v reflect.Value) reflect.Value {
	return copied(v, func(l reflect.Value) reflect.Value {
		n := l.Len()
		with := reflect.MakeSlice(l.Type(), n+room, n+room)
		reflect.Copy(with, l)
		for i := range room {
			spoil(with.Index(n + i))
		}
		return with.Slice(0, n)
	})
}

// whole is a copy of what roomy made, with what stands behind each list's end.
func whole(v reflect.Value) reflect.Value {
	return copied(v, func(l reflect.Value) reflect.Value {
		with := reflect.MakeSlice(l.Type(), l.Cap(), l.Cap())
		reflect.Copy(with, l.Slice(0, l.Cap()))
		return with
	})
}

// copied is v with each list made anew, and all that stands in it.
func copied(v reflect.Value, list func(l reflect.Value) reflect.Value) reflect.Value {
	with := reflect.New(v.Type()).Elem()
	with.Set(v)
	switch v.Kind() {
	case reflect.Struct:
		for i := range v.NumField() {
			with.Field(i).Set(copied(v.Field(i), list))
		}
	case reflect.Slice:
		with.Set(list(v))
		for i := range with.Len() {
			with.Index(i).Set(copied(with.Index(i), list))
		}
	}
	return with
}

// spoil puts something into each number of v.
func spoil(v reflect.Value) {
	switch v.Kind() {
	case reflect.Struct:
		for i := range v.NumField() {
			spoil(v.Field(i))
		}
	case reflect.Int:
		v.SetInt(77)
	case reflect.Uint64:
		v.SetUint(77)
	}
}

// region is where a list stands, with the room behind it.
type region struct{ from, to uintptr }

// apart tells whether no two lists of all of these have memory in common.
func apart(all ...any) bool {
	var l []region
	for _, v := range all {
		l = regions(l, reflect.ValueOf(v))
	}
	slices.SortFunc(l, func(a, b region) int { return cmp.Compare(a.from, b.from) })
	for i := 1; i < len(l); i++ {
		if l[i].from < l[i-1].to {
			return false
		}
	}
	return true
}

func regions(l []region, v reflect.Value) []region {
	switch v.Kind() {
	case reflect.Struct:
		for i := range v.NumField() {
			l = regions(l, v.Field(i))
		}
	case reflect.Slice:
		if v.Cap() > 0 {
			l = append(l, region{v.Pointer(), v.Pointer() + uintptr(v.Cap())*v.Type().Elem().Size()})
		}
		for i := range v.Len() {
			l = regions(l, v.Index(i))
		}
	}
	return l
}

// What holds all calls against 16.6 sees what it is to see.
func TestAnew(t *testing.T) {
	r := coretest.Leading()
	m := logtest.MsgsOfEachKind()[2]
	if other := coretest.Clone(r); !apart(r, other, m) || apart(r, r) || apart(m, logtest.CloneMsg(m), m) {
		t.Error("memory that is shared is not seen")
	}
	for i, share := range []func(r *api.Raft){
		func(r *api.Raft) { r.Votes = r.First },
		func(r *api.Raft) { r.Votes = r.First[1:2] },
		func(r *api.Raft) { r.Votes = r.First[:0] },
		func(r *api.Raft) { r.Snap.Members = r.Log.Entries[1].Members[:1] },
		func(r *api.Raft) { r.Log.Entries[3].Members = r.Log.Entries[1].Members },
	} {
		if apart(coretest.With(r, share)) {
			t.Errorf("%d: memory that is shared is not seen", i)
		}
	}
	given := roomy(reflect.ValueOf(r)).Interface().(api.Raft)
	if !coretest.Same(given, r) || !apart(given, r) {
		t.Error("a copy is another one")
	}
	for i, change := range []func(r api.Raft){
		func(r api.Raft) { r.First[0]++ },
		func(r api.Raft) { _ = append(r.First, 1) },
		func(r api.Raft) { _ = append(r.Votes, 1) },
		func(r api.Raft) { _ = append(r.Peers, api.Peer{}) },
		func(r api.Raft) { _ = append(r.Log.Entries, api.Entry{}) },
		func(r api.Raft) { _ = append(r.Log.Entries[1].Members, 1) },
		func(r api.Raft) { r.Log.Entries[1].Members[1]++ },
	} {
		before := whole(reflect.ValueOf(given)).Interface()
		change(given)
		if reflect.DeepEqual(whole(reflect.ValueOf(given)).Interface(), before) {
			t.Errorf("change %d is not seen", i)
		}
	}
}

// 16.6: if the lists that are handed in share memory among themselves, those of the answer do not.
func TestListsApart(t *testing.T) {
	one := []int{1, 2, 3, 4, 5, 6, 7}
	r := coretest.Leading()
	r.First, r.Votes, r.Snap.Members = one[:3], one, one[1:3]
	r.Log.Entries[1].Members, r.Log.Entries[3].Members = one[:3], one[:4]
	check := func(what string, why api.Errno, answer ...any) {
		t.Helper()
		if why != api.OK || !apart(append(answer, one, r.Peers)...) {
			t.Errorf("%s: two lists share memory, or error %d", what, why)
		}
	}
	same, posts, why := core.Tick(r, 0)
	check("Tick", why, same, posts)
	same, posts, why = core.Take(r, 3, api.Msg{Kind: api.MsgAppended, Term: 4}, 0)
	check("Take", why, same, posts)
	same, posts, why = core.Take(r, 3, api.Msg{Kind: api.MsgInstall, Term: 5, Snap: api.Snap{Index: 9, Members: one[:2]}}, 0)
	check("Take of an install", why, same, posts)
	same, why = core.Trim(r, 5, "")
	check("Trim", why, same)
	now, sure, why := core.Members(r)
	check("Members", why, now, sure)
	r.Commit = 7
	same, _, posts, why = core.Propose(r, api.Entry{Kind: api.EntryMembers, Members: one[:4]})
	if why != api.ErrRange { // the members are those already
		t.Error("Propose: error", why)
	}
	same, _, posts, why = core.Propose(r, api.Entry{Kind: api.EntryMembers, Members: one[:5]})
	check("Propose", why, same, posts)
	same, why = core.New(2, one[:2], api.Hard{Term: 4}, r.Snap, r.Log.Entries, 0)
	check("New", why, same)
}
