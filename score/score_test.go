package score_test

import (
	"cmp"
	"math"
	"math/big"
	"math/rand"
	"slices"
	"testing"

	"gaffer/api"
	"gaffer/booktest"
	"gaffer/rig"
	"gaffer/score"
)

type amounts = [api.Kinds]int64

// load is of a node that anybody suits who has no wants.
func load(name string, has, used amounts) api.Load {
	return api.Load{Node: api.Node{Name: name, Has: has}, Used: used}
}

func needs(n amounts) api.Task {
	return api.Task{Name: "t", Needs: n}
}

// 7.1: Check, of what is used of one kind at all edges.
func TestCheck(t *testing.T) {
	for kind := range api.Kinds {
		for _, has := range []int64{0, 1, 2, 1000, api.MaxAmount - 1, api.MaxAmount} {
			for _, used := range []int64{math.MinInt64, -api.MaxAmount, -1, 0, 1, 2, has - 1, has, has + 1, api.MaxAmount, api.MaxAmount + 1, math.MaxInt64} {
				l := api.Load{Node: booktest.SomeNode(), Used: amounts{1, 0, 6}}
				l.Node.Has[kind], l.Used[kind] = has, used
				want := api.OK
				if used < 0 || used > has {
					want = api.ErrRange
				}
				if why := score.Check(l); why != want {
					t.Errorf("kind %d, %d of %d: error %d, not %d", kind, used, has, why, want)
				}
			}
		}
	}
	if why := score.Check(api.Load{}); why != api.ErrName {
		t.Error("a load of nothing: error", why)
	}
}

// 7.1: Check tells what is wrong with the node ahead of what is used.
func TestCheckNode(t *testing.T) {
	for i, w := range booktest.WrongNodes() {
		for _, used := range []amounts{{}, {1, 1, 1}, w.Node.Has, {-1}, {math.MaxInt64, 0, 0}} {
			if why := score.Check(api.Load{Node: w.Node, Used: used}); why != w.Why {
				t.Errorf("node %d, %v used: error %d, not %d", i, used, why, w.Why)
			}
		}
	}
}

// 7.1: Score, as the chapter's example and others are reckoned by hand.
func TestScore(t *testing.T) {
	const m = api.MaxAmount
	for i, one := range []struct {
		needs, has, used amounts
		want             int64
	}{
		{amounts{1, 1, 1}, amounts{4, 2, 1}, amounts{1, 0, 0}, 2000},
		{amounts{}, amounts{}, amounts{}, 0},
		{amounts{}, amounts{4, 2, 1}, amounts{}, 0},
		{amounts{}, amounts{4, 2, 1}, amounts{4, 2, 1}, 3000},
		{amounts{4, 2, 1}, amounts{4, 2, 1}, amounts{}, 3000},
		{amounts{1, 1, 1}, amounts{3, 3, 3}, amounts{}, 999},  // each kind is cut, not the sum
		{amounts{2, 2, 2}, amounts{3, 3, 3}, amounts{}, 1998}, // nothing is rounded up
		{amounts{1, 0, 0}, amounts{1001, 0, 0}, amounts{}, 0}, // cut to nothing
		{amounts{1, 0, 0}, amounts{1000, 0, 0}, amounts{}, 1}, // just not
		{amounts{1, 0, 0}, amounts{4, 0, 0}, amounts{}, 250},  // two kinds of which there is none
		{amounts{0, 0, 1}, amounts{0, 4, 2}, amounts{}, 500},  // one
		{amounts{0, 1, 0}, amounts{0, 7, 0}, amounts{0, 1}, 285},
		{amounts{1, 0, 0}, amounts{7, 7, 7}, amounts{1, 3, 2}, 285 + 428 + 285},
		{amounts{m, m, m}, amounts{m, m, m}, amounts{}, 3000},
		{amounts{1, 1, 1}, amounts{m, m, m}, amounts{m - 1, m - 1, m - 1}, 3000},
		{amounts{1, 1, 1}, amounts{m, m, m}, amounts{m - 2, m / 2, 0}, 999 + 500},
		{amounts{m - 1, m / 2, m / 4}, amounts{m, m, m}, amounts{}, 999 + 500 + 250},
	} {
		s, why := score.Score(needs(one.needs), load("n", one.has, one.used))
		if s != one.want || why != api.OK {
			t.Errorf("%d: %d, error %d; not %d", i, s, why, one.want)
		}
	}
}

// reckoned is what the chapter says of amounts alone, by numbers without end; false, if there is no room.
func reckoned(needs, has, used amounts) (int64, bool) {
	sum := new(big.Int)
	for kind := range has {
		then := new(big.Int).Add(big.NewInt(used[kind]), big.NewInt(needs[kind]))
		if then.Cmp(big.NewInt(has[kind])) > 0 {
			return 0, false
		}
		if has[kind] > 0 {
			part := then.Mul(then, big.NewInt(1000))
			sum.Add(sum, part.Quo(part, big.NewInt(has[kind])))
		}
	}
	return sum.Int64(), true
}

// 7.1: Score of amounts small and great, whatever the other kinds are.
func TestScoreAmounts(t *testing.T) {
	const m = api.MaxAmount
	edges := []int64{0, 1, 2, 3, 6, 7, 999, 1000, 1001, 1999, m/1000 - 1, m / 1000, m / 3, m / 2, m - 2, m - 1, m}
	for kind := range api.Kinds {
		for _, has := range edges {
			for _, used := range edges {
				for _, need := range edges {
					n, h, u := amounts{1, 0, 5}, amounts{3, 0, 9}, amounts{1, 0, 2}
					n[kind], h[kind], u[kind] = need, has, min(used, has)
					want, room := reckoned(n, h, u)
					no := api.OK
					if !room {
						no = api.ErrFit
					}
					if s, why := score.Score(needs(n), load("n", h, u)); s != want || why != no {
						t.Errorf("%v beside %v of %v: %d, error %d; not %d, error %d", n, u, h, s, why, want, no)
					}
				}
			}
		}
	}
}

// 7.1: Score is ErrFit where the task has no place: of its wants, of the taints, of each kind. Nothing else is asked.
func TestScorePlace(t *testing.T) {
	for i, one := range []struct {
		change func(k *api.Task, l *api.Load)
		want   api.Errno
	}{
		{func(k *api.Task, l *api.Load) {}, api.OK},
		{func(k *api.Task, l *api.Load) { k.Wants = nil }, api.OK},
		{func(k *api.Task, l *api.Load) { k.Wants = l.Node.Labels }, api.OK},
		{func(k *api.Task, l *api.Load) { k.Wants = booktest.Pairs("disk", "y") }, api.ErrFit},
		{func(k *api.Task, l *api.Load) { k.Wants = booktest.Pairs("disk", "x", "zone", "") }, api.ErrFit},
		{func(k *api.Task, l *api.Load) { l.Node.Labels = nil }, api.ErrFit},
		{func(k *api.Task, l *api.Load) { k.Bears = l.Node.Taints }, api.OK},
		{func(k *api.Task, l *api.Load) { k.Bears = nil }, api.ErrFit},
		{func(k *api.Task, l *api.Load) { k.Bears = booktest.Pairs("gpu", "a") }, api.ErrFit},
		{func(k *api.Task, l *api.Load) { l.Node.Taints = nil; k.Bears = nil }, api.OK},
		{func(k *api.Task, l *api.Load) { l.Used = amounts{3, 3, 3} }, api.OK},
		{func(k *api.Task, l *api.Load) { l.Used = amounts{4, 3, 3} }, api.ErrFit},
		{func(k *api.Task, l *api.Load) { l.Used = amounts{3, 4, 3} }, api.ErrFit},
		{func(k *api.Task, l *api.Load) { l.Used = amounts{3, 3, 4} }, api.ErrFit},
		{func(k *api.Task, l *api.Load) { k.Needs = amounts{5, 0, 0} }, api.ErrFit},
		{func(k *api.Task, l *api.Load) { k.Needs = amounts{0, api.MaxAmount, 0} }, api.ErrFit},
		{func(k *api.Task, l *api.Load) { k.Needs, l.Node.Has = amounts{}, amounts{} }, api.OK},
		{func(k *api.Task, l *api.Load) { k.Needs, l.Node.Has = amounts{0, 0, 1}, amounts{} }, api.ErrFit},
		{func(k *api.Task, l *api.Load) { k.Group, k.Apart, k.Rank = "g", "g", 1000 }, api.OK},
	} {
		k, l := booktest.SomeTask(), api.Load{Node: booktest.SomeNode()}
		one.change(&k, &l)
		want, _ := reckoned(k.Needs, l.Node.Has, l.Used)
		if one.want != api.OK {
			want = 0
		}
		if s, why := score.Score(k, l); s != want || why != one.want {
			t.Errorf("Score %d: %d, error %d; not %d, error %d", i, s, why, want, one.want)
		}
		if at, why := score.Best(k, []api.Load{l}); at != 0 || why != one.want {
			t.Errorf("Best %d: %d, error %d, not %d", i, at, why, one.want)
		}
	}
}

// 7.1 and 7.2: what is wrong with the task comes first, then what is wrong with a load, then that there is no place.
func TestFirstError(t *testing.T) {
	there := api.Load{Node: booktest.SomeNode()}
	over := api.Load{Node: booktest.SomeNode(), Used: amounts{0, 0, 7}}
	loads := []api.Load{{}, there, over}
	for _, w := range booktest.WrongNodes() {
		loads = append(loads, api.Load{Node: w.Node})
	}
	for i, w := range booktest.WrongTasks() {
		for at, l := range loads {
			if s, why := score.Score(w.Task, l); s != 0 || why != w.Why {
				t.Errorf("Score of task %d, load %d: %d, error %d, not %d", i, at, s, why, w.Why)
			}
			if best, why := score.Best(w.Task, []api.Load{there, l}); best != 0 || why != w.Why {
				t.Errorf("Best of task %d, load %d: %d, error %d, not %d", i, at, best, why, w.Why)
			}
		}
		if best, why := score.Best(w.Task, nil); best != 0 || why != w.Why {
			t.Errorf("Best of task %d, no loads: %d, error %d, not %d", i, best, why, w.Why)
		}
	}
	nowhere := booktest.SomeTask()
	nowhere.Wants, nowhere.Needs = booktest.Pairs("none", ""), amounts{api.MaxAmount}
	for _, k := range []api.Task{booktest.SomeTask(), nowhere} {
		for i, l := range loads {
			no := score.Check(l)
			if no == api.OK {
				continue
			}
			if s, why := score.Score(k, l); s != 0 || why != no {
				t.Errorf("Score of load %d: %d, error %d, not %d", i, s, why, no)
			}
			for _, all := range [][]api.Load{{l}, {l, there}, {there, l}, {there, there, l, there}} {
				if best, why := score.Best(k, all); best != 0 || why != no {
					t.Errorf("Best of load %d of %d: %d, error %d, not %d", i, len(all), best, why, no)
				}
			}
		}
	}
	if s, why := score.Score(nowhere, there); s != 0 || why != api.ErrFit {
		t.Errorf("Score of no place: %d, error %d", s, why)
	}
}

// 7.2: the first error is that of the first load that has one.
func TestBestFirstError(t *testing.T) {
	there := load("n", amounts{4, 4, 4}, amounts{})
	full := load("m", amounts{4, 4, 4}, amounts{4, 4, 4})
	name := load("N", amounts{4, 4, 4}, amounts{5})
	used := load("a", amounts{4, 4, 4}, amounts{0, 0, 5})
	form := api.Load{Node: api.Node{Name: "z", Labels: booktest.Pairs("b", "", "a", "")}, Used: amounts{1}}
	for i, one := range []struct {
		l    []api.Load
		want api.Errno
	}{
		{[]api.Load{name, used, form}, api.ErrName},
		{[]api.Load{used, name, form}, api.ErrRange},
		{[]api.Load{form, used, name}, api.ErrForm},
		{[]api.Load{there, full, used, name}, api.ErrRange},
		{[]api.Load{full, form, there, used}, api.ErrForm},
		{[]api.Load{full, full, name}, api.ErrName},
	} {
		if at, why := score.Best(needs(amounts{1}), one.l); at != 0 || why != one.want {
			t.Errorf("%d: %d, error %d, not %d", i, at, why, one.want)
		}
	}
}

// 7.2: Best, where scores are equal, names are equal, or there is no place.
func TestBest(t *testing.T) {
	at := func(name string, used int64) api.Load { return load(name, amounts{8, 8, 8}, amounts{used}) }
	other := load("b", amounts{4, 4, 4}, amounts{}) // as good as one of 8 of which 2 are used
	for i, one := range []struct {
		l    []api.Load
		want int
		why  api.Errno
	}{
		{nil, 0, api.ErrFit},
		{[]api.Load{}, 0, api.ErrFit},
		{[]api.Load{at("a", 8)}, 0, api.ErrFit},
		{[]api.Load{at("a", 7), at("b", 8), at("c", 8)}, 0, api.ErrFit},
		{[]api.Load{at("a", 0)}, 0, api.OK},
		{[]api.Load{at("a", 7), at("b", 6)}, 1, api.OK},
		{[]api.Load{at("a", 0), at("b", 4), at("c", 7)}, 1, api.OK},
		{[]api.Load{at("c", 0), at("b", 1), at("a", 2)}, 2, api.OK},
		{[]api.Load{at("a", 2), at("b", 1), at("c", 0)}, 0, api.OK},
		{[]api.Load{at("z", 2), at("a", 1), at("b", 1)}, 0, api.OK},
		{[]api.Load{at("b", 1), at("a", 1), at("c", 1)}, 1, api.OK},
		{[]api.Load{at("c", 1), at("b", 1), at("a", 1)}, 2, api.OK},
		{[]api.Load{at("a", 1), at("a", 1), at("a", 1)}, 0, api.OK},
		{[]api.Load{at("b", 1), at("a", 1), at("a", 1), at("b", 1)}, 1, api.OK},
		{[]api.Load{at("a", 0), at("a", 1), at("a", 1)}, 1, api.OK},
		{[]api.Load{at("a", 8), at("c", 2), at("b", 2)}, 2, api.OK},
		{[]api.Load{at("a0", 1), at("a-", 1), at("aa", 1)}, 1, api.OK},
		{[]api.Load{at("ab", 1), at("a", 1), at("b", 1)}, 1, api.OK},
		{[]api.Load{at("z", 0), at("9", 0)}, 1, api.OK},
		{[]api.Load{at("c", 0), other}, 1, api.OK},
		{[]api.Load{other, at("a", 2)}, 1, api.OK},
		{[]api.Load{at("c", 2), other}, 1, api.OK},
		{[]api.Load{other, at("a", 1)}, 0, api.OK},
		{[]api.Load{other, at("c", 3)}, 1, api.OK},
	} {
		k := needs(amounts{2})
		if best, why := score.Best(k, one.l); best != one.want || why != one.why {
			t.Errorf("%d: %d, error %d; not %d, error %d", i, best, why, one.want, one.why)
		}
	}
	// Nothing is needed, and no node has anything: all scores are 0.
	none := []api.Load{load("b", amounts{}, amounts{}), load("a", amounts{}, amounts{}), load("a", amounts{}, amounts{})}
	if best, why := score.Best(needs(amounts{}), none); best != 1 || why != api.OK {
		t.Errorf("scores of 0: %d, error %d", best, why)
	}
	many := slices.Repeat([]api.Load{at("b", 3), at("c", 4)}, 5000)
	many[7777] = at("a", 4)
	if best, why := score.Best(needs(amounts{1}), many); best != 7777 || why != api.OK {
		t.Errorf("many: %d, error %d", best, why)
	}
}

// drawn are loads of few names and few amounts, so that scores and names are often equal.
func drawn(draw *rand.Rand) (api.Task, []api.Load) {
	some := func(most int64) amounts {
		return amounts{draw.Int63n(most + 1), draw.Int63n(most + 1), draw.Int63n(most + 1)}
	}
	k := needs(some(2))
	if draw.Intn(2) == 0 {
		k.Wants = booktest.Pairs("zone", "a")
	}
	var l []api.Load
	for range draw.Intn(8) {
		one := load([]string{"a", "b", "b-", "c", "d"}[draw.Intn(5)], some(4), amounts{})
		for kind, has := range one.Node.Has {
			one.Used[kind] = draw.Int63n(has + 1)
		}
		if draw.Intn(3) > 0 {
			one.Node.Labels = booktest.Pairs("disk", "x", "zone", "a")
		}
		if draw.Intn(9) == 0 {
			one.Node.Taints = booktest.Pairs("old", "")
		}
		l = append(l, one)
	}
	return k, l
}

// places are those in l where k has a place, the best first.
func places(k api.Task, l []api.Load) []int {
	var all []int
	points := make([]int64, len(l))
	for at, one := range l {
		var room bool
		if points[at], room = reckoned(k.Needs, one.Node.Has, one.Used); room && rig.Suits(k, one.Node) {
			all = append(all, at)
		}
	}
	slices.SortStableFunc(all, func(x, y int) int {
		return cmp.Or(cmp.Compare(points[y], points[x]), cmp.Compare(l[x].Node.Name, l[y].Node.Name))
	})
	return all
}

// 7.2, 7.3, 7.4: Best is the first of all that have a place; none has a greater score; each is within.
func TestBestOfMany(t *testing.T) {
	draw := rand.New(rand.NewSource(72))
	for range 30000 {
		k, l := drawn(draw)
		best, why := score.Best(k, l)
		all := places(k, l)
		if len(all) == 0 {
			if best != 0 || why != api.ErrFit {
				t.Fatalf("%v of %v: %d, error %d", k, l, best, why)
			}
			continue
		}
		if best != all[0] || why != api.OK {
			t.Fatalf("%v of %v: %d, error %d; not %d", k, l, best, why, all[0])
		}
		most, _ := score.Score(k, l[best])
		for at, one := range l {
			s, why := score.Score(k, one)
			if (why == api.OK) != slices.Contains(all, at) || s > most {
				t.Fatalf("%v on %v: %d, error %d; the best has %d", k, one, s, why, most)
			}
			if s < 0 || s > 1000*api.Kinds {
				t.Fatalf("%v on %v: %d", k, one, s)
			}
		}
	}
}

// 7.3: amounts as great as may be are within, too.
func TestWithin(t *testing.T) {
	draw := rand.New(rand.NewSource(73))
	for range 20000 {
		var k, has, used amounts
		for kind := range has {
			has[kind] = draw.Int63n(api.MaxAmount + 1)
			used[kind] = draw.Int63n(has[kind] + 1)
			k[kind] = draw.Int63n(has[kind] - used[kind] + 1)
		}
		want, _ := reckoned(k, has, used)
		if s, why := score.Score(needs(k), load("n", has, used)); s != want || why != api.OK || s < 0 || s > 1000*api.Kinds {
			t.Fatalf("%v beside %v of %v: %d, error %d; not %d", k, used, has, s, why, want)
		}
	}
}

// 7.5: loads the other way round, of which no two have one name.
func TestTurned(t *testing.T) {
	draw := rand.New(rand.NewSource(75))
	for range 20000 {
		k, l := drawn(draw)
		for at := range l {
			l[at].Node.Name = string([]byte{'a' + byte(at)})
		}
		draw.Shuffle(len(l), func(i, j int) { l[i], l[j] = l[j], l[i] })
		turned := slices.Clone(l)
		slices.Reverse(turned)
		best, why := score.Best(k, l)
		other, no := score.Best(k, turned)
		if why != no || why == api.OK && l[best].Node.Name != turned[other].Node.Name {
			t.Fatalf("%v of %v: %d, error %d; turned %d, error %d", k, l, best, why, other, no)
		}
	}
}

// DOC.md's Words and P3: what is handed in stays as it was, and asked again it is the same.
func TestNothingChanged(t *testing.T) {
	made := func() (api.Task, []api.Load) {
		l := []api.Load{{Node: booktest.SomeNode()}, {Node: booktest.SomeNode(), Used: amounts{3, 3, 3}}, {Node: booktest.SomeNode(), Used: amounts{1}}, {Node: booktest.SomeNode()}}
		l[0].Node.Name, l[2].Node.Name = "z", "a"
		return booktest.SomeTask(), l
	}
	k, l := made()
	for range 2 {
		if best, why := score.Best(k, l[:3]); best != 1 || why != api.OK {
			t.Errorf("Best: %d, error %d", best, why)
		}
		if s, why := score.Score(k, l[0]); s != 250+400+500 || why != api.OK {
			t.Errorf("Score: %d, error %d", s, why)
		}
		if why := score.Check(l[2]); why != api.OK {
			t.Errorf("Check: error %d", why)
		}
	}
	was, all := made()
	if !booktest.SameTask(k, was) {
		t.Error("the task is changed:", k)
	}
	for at, one := range all {
		if !booktest.SameNode(l[at].Node, one.Node) || l[at].Used != one.Used {
			t.Errorf("load %d is changed: %v", at, l[at])
		}
	}
}
