package rig_test

import (
	"math"
	"math/big"
	"math/rand"
	"slices"
	"strings"
	"testing"

	"gaffer/api"
	"gaffer/booktest"
	"gaffer/rig"
)

type amounts = [api.Kinds]int64

const letters = "abcdefghijklmnopqrstuvwxyz0123456789-"

var (
	longest = strings.Repeat("z", api.MaxName)
	tooLong = longest + "z"
)

func rightNames() []string {
	list := []string{"a", "z", "0", "9", "-", "--", "a-9", "node-17", "-a", "a-", longest[1:], longest, letters[:api.MaxName], letters[len(letters)-api.MaxName:]}
	for _, c := range letters {
		list = append(list, string(c), "x"+string(c)+"y")
	}
	return list
}

func wrongNames() []string {
	list := []string{"", tooLong, letters, longest + longest, strings.Repeat("a", 1<<20), longest[1:] + "A", "é", "aé", "\xff", "ａ"}
	for c := range 256 {
		if b := string([]byte{byte(c)}); !strings.Contains(letters, b) {
			list = append(list, b, b+"a", "a"+b, "a"+b+"a", longest[1:]+b)
		}
	}
	return list
}

// 6.1: Name.
func TestName(t *testing.T) {
	for _, s := range rightNames() {
		if !rig.Name(s) {
			t.Errorf("Name(%q): none", s)
		}
	}
	for _, s := range wrongNames() {
		if rig.Name(s) {
			t.Errorf("Name(%.40q), %d bytes: one", s, len(s))
		}
	}
}

// What the tests of all that has to do with the cluster have.
var (
	listOf   = booktest.Pairs
	someNode = booktest.SomeNode
	someTask = booktest.SomeTask
)

// rightLists are of pairs that rise: by the Key, by bytes, then by the Value; some would fall, if both were held against each other as one text.
func rightLists() [][]api.Pair {
	list := [][]api.Pair{
		nil,
		{},
		listOf("a", ""),
		listOf("a", "b"),
		listOf(longest, longest),
		listOf("a", "", "a", "a", "a", "b", "a", "ba"),
		listOf("a", "b", "b", "a"),
		listOf("a", "z", "ab", "a", "ab", "b"),
		listOf("-", "z", "0", "y", "9", "x", "a", ""),
		listOf("a", "-", "a", "0", "a", "9", "a", "a"),
		listOf("a", "9", "a-", "9", "a0", "9", "aa", "9"),
		listOf("a", "b", "b", "b", "c", "b"),
		listOf(longest[1:], "z", longest, ""),
	}
	for _, name := range rightNames() {
		list = append(list, listOf(name, name), listOf(name, "", name, name))
	}
	return list
}

func wrongLists() [][]api.Pair {
	list := [][]api.Pair{
		listOf("a", "", "b", "", "c", "", "d", "", "e", ""),
		listOf("a", "", "a", "a", "a", "b", "a", "c", "a", "d"),
		listOf("a", "", "a", ""),
		listOf("a", "b", "a", "b"),
		listOf("a", "", "b", "x", "b", "x"),
		listOf("b", "", "a", ""),
		listOf("b", "a", "a", "b"),
		listOf("ab", "", "a", "z"),
		listOf("a", "a", "a", ""),
		listOf("a", "b", "a", "a"),
		listOf("a", "ba", "a", "b"),
		listOf("a", "b", "b", "", "a", "c"),
		listOf("a", "", "b", "", "d", "", "c", ""),
		listOf("a", "a", "a", "9"),
		listOf("0", "", "-", ""),
		listOf("a", "", "", "b"),
		listOf("", ""),
		slices.Repeat(listOf("a", ""), 1000),
	}
	for _, name := range wrongNames() {
		list = append(list, listOf(name, ""), listOf("-", "-", name, "x"))
		if name != "" {
			list = append(list, listOf("a", name), listOf("-", "-", "a", name, "b", ""))
		}
	}
	return list
}

func rightAmounts() []amounts {
	return []amounts{{}, {1}, {1, 2, 3}, {api.MaxAmount, 0, 0}, {0, api.MaxAmount, 0}, {0, 0, api.MaxAmount}, {api.MaxAmount, api.MaxAmount, api.MaxAmount}, {api.MaxAmount - 1, 1, 0}}
}

func wrongAmounts() []amounts {
	var list []amounts
	for kind := range api.Kinds {
		for _, n := range []int64{-1, -2, math.MinInt64, math.MinInt64 + 1, -api.MaxAmount, api.MaxAmount + 1, api.MaxAmount + 2, 2 * api.MaxAmount, api.MaxTasks * api.MaxAmount, math.MaxInt64} {
			one, all := amounts{}, amounts{5, 5, 5}
			one[kind], all[kind] = n, n
			list = append(list, one, all)
		}
	}
	return append(list, amounts{-1, 1, 0}, amounts{-1, -1, -1}, amounts{math.MaxInt64, math.MaxInt64, math.MaxInt64})
}

func checksNode(t *testing.T, n api.Node, want api.Errno) {
	t.Helper()
	if why := rig.CheckNode(n); why != want {
		t.Errorf("CheckNode(%.200v): error %d, not %d", n, why, want)
	}
}

func checksTask(t *testing.T, k api.Task, want api.Errno) {
	t.Helper()
	if why := rig.CheckTask(k); why != want {
		t.Errorf("CheckTask(%.200v): error %d, not %d", k, why, want)
	}
}

// 6.1: CheckNode, of one field that is at an edge, or behind it.
func TestCheckNode(t *testing.T) {
	checksNode(t, api.Node{Name: "n"}, api.OK)
	checksNode(t, api.Node{}, api.ErrName)
	with := func(change func(n *api.Node), want api.Errno) {
		t.Helper()
		n := someNode()
		change(&n)
		checksNode(t, n, want)
	}
	for _, s := range rightNames() {
		with(func(n *api.Node) { n.Name = s }, api.OK)
	}
	for _, s := range wrongNames() {
		with(func(n *api.Node) { n.Name = s }, api.ErrName)
	}
	for _, a := range rightAmounts() {
		with(func(n *api.Node) { n.Has = a }, api.OK)
	}
	for _, a := range wrongAmounts() {
		with(func(n *api.Node) { n.Has = a }, api.ErrRange)
	}
	for _, l := range rightLists() {
		with(func(n *api.Node) { n.Labels = l }, api.OK)
		with(func(n *api.Node) { n.Taints = l }, api.OK)
		with(func(n *api.Node) { n.Labels, n.Taints = l, l }, api.OK)
	}
	for _, l := range wrongLists() {
		with(func(n *api.Node) { n.Labels = l }, api.ErrForm)
		with(func(n *api.Node) { n.Taints = l }, api.ErrForm)
	}
}

// 6.1: CheckTask, likewise.
func TestCheckTask(t *testing.T) {
	checksTask(t, api.Task{Name: "t"}, api.OK)
	checksTask(t, api.Task{}, api.ErrName)
	with := func(change func(k *api.Task), want api.Errno) {
		t.Helper()
		k := someTask()
		change(&k)
		checksTask(t, k, want)
	}
	for _, s := range rightNames() {
		with(func(k *api.Task) { k.Name = s }, api.OK)
		with(func(k *api.Task) { k.Group = s }, api.OK)
		with(func(k *api.Task) { k.Apart = s }, api.OK)
		with(func(k *api.Task) { k.Group, k.Apart = s, s }, api.OK)
	}
	with(func(k *api.Task) { k.Group = "" }, api.OK)
	with(func(k *api.Task) { k.Apart = "" }, api.OK)
	for _, s := range wrongNames() {
		with(func(k *api.Task) { k.Name = s }, api.ErrName)
		if s != "" {
			with(func(k *api.Task) { k.Group = s }, api.ErrForm)
			with(func(k *api.Task) { k.Apart = s }, api.ErrForm)
		}
	}
	for _, a := range rightAmounts() {
		with(func(k *api.Task) { k.Needs = a }, api.OK)
	}
	for _, a := range wrongAmounts() {
		with(func(k *api.Task) { k.Needs = a }, api.ErrRange)
	}
	for _, r := range []int{-1000, -999, -1, 0, 1, 999, 1000} {
		with(func(k *api.Task) { k.Rank = r }, api.OK)
	}
	for _, r := range []int{-1001, -1002, 1001, 1002, math.MinInt, math.MaxInt, 1 << 32, -1 << 32} {
		with(func(k *api.Task) { k.Rank = r }, api.ErrRange)
	}
	for _, l := range rightLists() {
		with(func(k *api.Task) { k.Wants = l }, api.OK)
		with(func(k *api.Task) { k.Bears = l }, api.OK)
		with(func(k *api.Task) { k.Wants, k.Bears = l, l }, api.OK)
	}
	for _, l := range wrongLists() {
		with(func(k *api.Task) { k.Wants = l }, api.ErrForm)
		with(func(k *api.Task) { k.Bears = l }, api.ErrForm)
	}
}

// first is the error that the chapter names first: a name's, a range's, one of the form.
func first(name, number, form bool) api.Errno {
	switch {
	case name:
		return api.ErrName
	case number:
		return api.ErrRange
	case form:
		return api.ErrForm
	}
	return api.OK
}

// 6.1: which error comes first, of all that may apply at once.
func TestFirstError(t *testing.T) {
	for faults := range 1 << 7 {
		has := func(bit int) bool { return faults>>bit&1 == 1 }
		n, k := someNode(), someTask()
		if has(0) {
			n.Name, k.Name = "N", ""
		}
		if has(1) {
			n.Has[2], k.Needs[1] = -1, api.MaxAmount+1
		}
		if has(2) {
			k.Rank = 1001
		}
		if has(3) {
			n.Labels, k.Wants = wrongLists()[0], wrongLists()[2]
		}
		if has(4) {
			n.Taints, k.Bears = wrongLists()[5], wrongLists()[16]
		}
		if has(5) {
			k.Group = "G"
		}
		if has(6) {
			k.Apart = tooLong
		}
		checksNode(t, n, first(has(0), has(1), has(3) || has(4)))
		checksTask(t, k, first(has(0), has(1) || has(2), has(3) || has(4) || has(5) || has(6)))
	}
}

// pairs differ by little: in the Key, in the Value, in where the one ends.
var pairs = listOf("a", "", "a", "bc", "ab", "c", "b", "bc")

// some are those of pairs whose bit is set.
func some(bits int) []api.Pair {
	var l []api.Pair
	for i, p := range pairs {
		if bits>>i&1 == 1 {
			l = append(l, p)
		}
	}
	return l
}

// mixed is the list in another order, with some of it more than once.
func mixed(draw *rand.Rand, l []api.Pair) []api.Pair {
	out := slices.Clone(l)
	for range len(l) {
		out = append(out, l[draw.Intn(len(l))])
	}
	draw.Shuffle(len(out), func(i, j int) { out[i], out[j] = out[j], out[i] })
	return out
}

// 6.1: Suits, of all there is to want, to have and to bear; also of lists that do not rise.
func TestSuits(t *testing.T) {
	draw := rand.New(rand.NewSource(6))
	for all := range 1 << 16 {
		wants, labels, taints, bears := all&15, all>>4&15, all>>8&15, all>>12
		want := wants&^labels == 0 && taints&^bears == 0
		k := api.Task{Name: "t", Wants: some(wants), Bears: some(bears)}
		n := api.Node{Name: "n", Labels: some(labels), Taints: some(taints)}
		if rig.Suits(k, n) != want {
			t.Errorf("Suits(%v, %v): not %t", k, n, want)
		}
		k.Wants, k.Bears = mixed(draw, k.Wants), mixed(draw, k.Bears)
		n.Labels, n.Taints = mixed(draw, n.Labels), mixed(draw, n.Taints)
		if rig.Suits(k, n) != want {
			t.Errorf("Suits(%v, %v): not %t", k, n, want)
		}
	}
}

// 6.1: the chapter's example; and Suits asks nothing but these four lists, whatever all the others are.
func TestSuitsWhatever(t *testing.T) {
	n := someNode()
	k := api.Task{Name: "t", Wants: listOf("zone", "a"), Bears: listOf("gpu", "")}
	if !rig.Suits(k, n) {
		t.Error("the example does not suit")
	}
	if k.Bears = nil; rig.Suits(k, n) {
		t.Error("a taint that is not borne suits")
	}
	if !rig.Suits(api.Task{}, api.Node{}) {
		t.Error("nothing does not suit nothing")
	}
	odd := listOf("", "", "Z", "\xff", tooLong, tooLong, "a", "a", "a", "a", "", "x")
	k = api.Task{Name: "T", Needs: amounts{-1, math.MaxInt64, 7}, Wants: odd, Bears: odd, Group: "g", Apart: "g", Rank: 5000}
	n = api.Node{Name: "", Has: amounts{0, -5, 0}, Labels: odd, Taints: odd}
	if !rig.Suits(k, n) {
		t.Error("lists that are not right do not suit")
	}
	for i := range odd {
		less := slices.DeleteFunc(slices.Clone(odd), func(p api.Pair) bool { return p == odd[i] })
		k.Bears = less
		if rig.Suits(k, n) {
			t.Errorf("the taint %d is not borne", i)
		}
		k.Bears, n.Labels = odd, less
		if rig.Suits(k, n) {
			t.Errorf("the label %d is not there", i)
		}
		n.Labels = odd
	}
}

// 6.1 and 6.3: Bear, and the same the other way round.
func TestBear(t *testing.T) {
	texts := []string{"", "g", "h", "gh", "G", "\xff", tooLong}
	for _, g := range texts {
		for _, x := range texts {
			for _, h := range texts {
				for _, y := range texts {
					a := api.Task{Name: "a", Group: g, Apart: x, Rank: 1}
					b := api.Task{Name: "b", Group: h, Apart: y, Needs: amounts{-1}}
					want := (x == "" || x != h) && (y == "" || y != g)
					if rig.Bear(a, b) != want || rig.Bear(b, a) != want {
						t.Errorf("Bear of groups %q and %q, apart of %q and %q: not %t", g, h, x, y, want)
					}
				}
			}
			alone := api.Task{Name: "a", Group: g, Apart: x}
			if rig.Bear(alone, alone) != (x == "" || x != g) {
				t.Errorf("Bear of the same one, group %q, apart of %q", g, x)
			}
		}
	}
}

// 6.2: Sum.
func TestSum(t *testing.T) {
	sums := func(l []api.Task, want amounts, no api.Errno) {
		t.Helper()
		if s, why := rig.Sum(l); s != want || why != no {
			t.Errorf("Sum of %d: %v, error %d; not %v, error %d", len(l), s, why, want, no)
		}
	}
	sums(nil, amounts{}, api.OK)
	sums([]api.Task{}, amounts{}, api.OK)
	sums([]api.Task{{Needs: amounts{1, 2, 3}}, {Needs: amounts{4}}, {}, {Needs: amounts{0, 5, 6}}}, amounts{5, 7, 9}, api.OK)
	for _, a := range rightAmounts() {
		for _, count := range []int{1, 2, api.MaxTasks - 1, api.MaxTasks} {
			var want amounts
			for kind := range want {
				want[kind] = a[kind] * int64(count)
			}
			sums(slices.Repeat([]api.Task{{Needs: a}}, count), want, api.OK)
		}
		for _, count := range []int{api.MaxTasks + 1, api.MaxTasks + 2, 1000} {
			sums(slices.Repeat([]api.Task{{Needs: a}}, count), amounts{}, api.ErrRange)
		}
	}
	for _, a := range wrongAmounts() {
		for _, at := range []int{0, 1, api.MaxTasks - 1} {
			l := slices.Repeat([]api.Task{{Needs: amounts{1, 2, 3}}}, api.MaxTasks)
			l[at].Needs = a
			sums(l, amounts{}, api.ErrRange)
			sums(l[:at+1], amounts{}, api.ErrRange)
		}
	}
	odd := api.Task{Name: "T", Needs: amounts{1, 1, 1}, Wants: wrongLists()[0], Group: "G", Rank: 9999}
	sums([]api.Task{odd, odd}, amounts{2, 2, 2}, api.OK)
}

const usedMost = api.MaxTasks * api.MaxAmount

// fits is what the chapter says of one kind, by numbers without end.
func fits(has, used, needs int64) bool {
	if has < 0 || has > api.MaxAmount || needs < 0 || needs > api.MaxAmount || used < 0 || used > usedMost {
		return false
	}
	return new(big.Int).Add(big.NewInt(used), big.NewInt(needs)).Cmp(big.NewInt(has)) <= 0
}

// 6.2: Room, of all edges of one kind, while the others have room, or have none.
func TestRoom(t *testing.T) {
	edges := []int64{math.MinInt64, math.MinInt64 + 1, -api.MaxAmount, -2, -1, 0, 1, 2, 3, api.MaxAmount / 2, api.MaxAmount - 1, api.MaxAmount, api.MaxAmount + 1, 2 * api.MaxAmount, usedMost, usedMost + 1, math.MaxInt64 - api.MaxAmount, math.MaxInt64 - 1, math.MaxInt64}
	for kind := range api.Kinds {
		other := (kind + 1) % api.Kinds
		for _, has := range edges {
			for _, used := range edges {
				for _, needs := range edges {
					n, u, k := someNode(), amounts{1, 2, 3}, amounts{3, 3, 3}
					n.Has[kind], u[kind], k[kind] = has, used, needs
					want := fits(has, used, needs)
					if rig.Room(n, u, k) != want {
						t.Errorf("Room, kind %d: %d and %d of %d: not %t", kind, used, needs, has, want)
					}
					if k[other]++; rig.Room(n, u, k) {
						t.Errorf("Room, kind %d: %d and %d of %d; and the next kind has none", kind, used, needs, has)
					}
				}
			}
		}
	}
	for _, a := range rightAmounts() {
		n := someNode()
		n.Has = a
		if !rig.Room(n, amounts{}, a) || !rig.Room(n, a, amounts{}) || !rig.Room(n, amounts{}, amounts{}) {
			t.Errorf("Room of all that there is: %v", a)
		}
	}
}

// 6.4: what suits a task suits one that wants less, or bears more.
func TestLessWants(t *testing.T) {
	n := someNode()
	k := someTask()
	k.Wants = slices.Clone(n.Labels)
	if !rig.Suits(k, n) {
		t.Fatal("it does not suit at all")
	}
	for i := range k.Wants {
		less := k
		less.Wants = slices.Delete(slices.Clone(k.Wants), i, i+1)
		if !rig.Suits(less, n) {
			t.Errorf("without %v", k.Wants[i])
		}
	}
	for _, p := range append(pairs, api.Pair{}) {
		for at := range len(k.Bears) + 1 {
			more := k
			more.Bears = slices.Insert(slices.Clone(k.Bears), at, p)
			if !rig.Suits(more, n) {
				t.Errorf("bearing %v, too", p)
			}
		}
	}
}

// 6.4: where there is room for needs there is for less of any kind, and for less that is used.
func TestLessNeeds(t *testing.T) {
	draw := rand.New(rand.NewSource(64))
	for range 20000 {
		n, used, needs := someNode(), amounts{}, amounts{}
		for kind := range used {
			used[kind], needs[kind] = draw.Int63n(4), draw.Int63n(4)
		}
		if !rig.Room(n, used, needs) {
			continue
		}
		for kind := range needs {
			less, freed := needs, used
			less[kind] -= min(1, less[kind])
			freed[kind] -= min(1, freed[kind])
			if !rig.Room(n, used, less) || !rig.Room(n, freed, needs) {
				t.Errorf("room for %v behind %v, but not for less", needs, used)
			}
		}
	}
}

// DOC.md's Words and P3: what is handed in stays as it was, room behind its end, too; and asked again it is the same.
func TestNothingChanged(t *testing.T) {
	room := func(l ...api.Pair) []api.Pair { return append(slices.Clone(l), api.Pair{Key: "room"})[:len(l)] }
	for _, l := range [][]api.Pair{listOf("a", "", "b", "x"), listOf("b", "x", "a", "", "b", "x")} {
		n := api.Node{Name: "n", Labels: room(l...), Taints: room(l...)}
		k := api.Task{Name: "t", Wants: room(l...), Bears: room(l...), Group: "g", Apart: "h"}
		tasks := append([]api.Task{k, k, {Needs: amounts{1, 2, 3}}}, api.Task{Name: "room"})[:3]
		type told struct {
			node, task, sum api.Errno
			all             amounts
			suits, bear     bool
			room            bool
		}
		ask := func() told {
			all, why := rig.Sum(tasks)
			return told{rig.CheckNode(n), rig.CheckTask(k), why, all, rig.Suits(k, n), rig.Bear(k, tasks[0]), rig.Room(n, amounts{}, all)}
		}
		before := ask()
		if ask() != before {
			t.Errorf("%v: asked again it is another one", l)
		}
		for i, given := range [][]api.Pair{n.Labels, n.Taints, k.Wants, k.Bears} {
			if !slices.Equal(given[:len(l)+1], append(slices.Clone(l), api.Pair{Key: "room"})) {
				t.Errorf("list %d is changed: %v", i, given)
			}
		}
		if tasks[:4][3].Name != "room" || tasks[0].Name != "t" || tasks[2].Needs != (amounts{1, 2, 3}) {
			t.Errorf("the tasks are changed: %v", tasks)
		}
	}
}
