package tests

import (
	"math/rand"
	"slices"
	"testing"

	"loop.example/leaderlesslog/impl"
)

// places tells the place of each valid id in order; what it does not have is invalid.
var places = placeOfIds()

// wantSorted reports whether a list has sorted ids, by the places of its ids.
func wantSorted(list []impl.Id) bool {
	last := -1
	for _, a := range list {
		place, valid := places[a]
		if !valid || place <= last {
			return false
		}
		last = place
	}
	return len(list) <= 12
}

// wantJoin returns what DepsJoin has to return, by looking for each valid id in both lists.
func wantJoin(a, b []impl.Id) ([]impl.Id, bool) {
	if !wantSorted(a) || !wantSorted(b) {
		return nil, false
	}
	given := map[impl.Id]bool{}
	for _, x := range slices.Concat(a, b) {
		given[x] = true
	}
	if len(given) > 12 {
		return nil, false
	}
	both := []impl.Id{}
	for x := range given {
		both = append(both, x)
	}
	slices.SortFunc(both, func(x, y impl.Id) int { return places[x] - places[y] })
	return both, true
}

// wantWithin returns what DepsWithin has to return, by looking for each id in the second list.
func wantWithin(a, b []impl.Id) bool {
	if !wantSorted(a) || !wantSorted(b) {
		return false
	}
	for _, x := range a {
		if !slices.Contains(b, x) {
			return false
		}
	}
	return true
}

// wantLatest returns what DepsLatest has to return, by the last number that is seen of each replica.
func wantLatest(list []impl.Id) []impl.Id {
	if !wantSorted(list) {
		return nil
	}
	last := map[int]int{}
	for _, a := range list {
		last[a.Replica] = a.Number
	}
	var latest []impl.Id
	for replica := 0; replica <= 4; replica++ {
		if last[replica] > 0 {
			latest = append(latest, id(replica, last[replica]))
		}
	}
	return latest
}

// checkOne holds DepsValid and DepsLatest of a list, whatever it is, against the document.
func checkOne(t *testing.T, list []impl.Id) {
	t.Helper()
	before := slices.Clone(list)
	if got, want := impl.DepsValid(list), wantSorted(list); got != want {
		t.Fatalf("DepsValid(%v) is %v", list, got)
	}
	if got, want := impl.DepsLatest(list), wantLatest(list); !slices.Equal(got, want) {
		t.Fatalf("DepsLatest(%v) is %v, not %v", list, got, want)
	}
	if !slices.Equal(list, before) {
		t.Fatalf("DepsValid or DepsLatest of %v makes it %v", before, list)
	}
}

// checkTwo holds DepsJoin and DepsWithin of two lists, whatever they are, against the document.
func checkTwo(t *testing.T, a, b []impl.Id) {
	t.Helper()
	aBefore, bBefore := slices.Clone(a), slices.Clone(b)
	want, wantOk := wantJoin(a, b)
	if got, ok := impl.DepsJoin(a, b); ok != wantOk || !slices.Equal(got, want) {
		t.Fatalf("DepsJoin(%v, %v) is %v, %v, not %v, %v", a, b, got, ok, want, wantOk)
	}
	if got, want := impl.DepsWithin(a, b), wantWithin(a, b); got != want {
		t.Fatalf("DepsWithin(%v, %v) is %v", a, b, got)
	}
	if !slices.Equal(a, aBefore) || !slices.Equal(b, bBefore) {
		t.Fatalf("DepsJoin or DepsWithin of %v and %v makes them %v and %v", aBefore, bBefore, a, b)
	}
}

// wantNotSorted checks that all functions tell that a list has no sorted ids, also beside one that has.
func wantNotSorted(t *testing.T, list []impl.Id) {
	t.Helper()
	if impl.DepsValid(list) {
		t.Fatalf("%v is valid", list)
	}
	if got := impl.DepsLatest(list); len(got) != 0 {
		t.Fatalf("DepsLatest(%v) is %v", list, got)
	}
	for _, other := range [][]impl.Id{nil, {id(1, 1)}, {id(0, 1), id(2, 2), id(4, 50)}, list} {
		if got, ok := impl.DepsJoin(list, other); ok || len(got) != 0 {
			t.Fatalf("DepsJoin(%v, %v) is %v, %v", list, other, got, ok)
		}
		if got, ok := impl.DepsJoin(other, list); ok || len(got) != 0 {
			t.Fatalf("DepsJoin(%v, %v) is %v, %v", other, list, got, ok)
		}
		if impl.DepsWithin(list, other) || impl.DepsWithin(other, list) {
			t.Fatalf("DepsWithin holds for %v and %v in one direction", list, other)
		}
	}
}

// inOrder sorts a list of valid ids, without repeats.
func inOrder(list []impl.Id) []impl.Id {
	sorted := slices.Clone(list)
	slices.SortFunc(sorted, func(x, y impl.Id) int { return places[x] - places[y] })
	return slices.Compact(sorted)
}

// sortedIds returns so many ids in order.
func sortedIds(random *rand.Rand, many int) []impl.Id {
	return inOrder(someIds(random, many))
}

// partsOf lists all parts of ids in order, each of them in order.
func partsOf(ids []impl.Id) [][]impl.Id {
	var parts [][]impl.Id
	for which := range 1 << len(ids) {
		part := []impl.Id{}
		for i, a := range ids {
			if which>>i&1 == 1 {
				part = append(part, a)
			}
		}
		parts = append(parts, part)
	}
	return parts
}

// fewIds are a few ids in order, at the limits and between.
func fewIds() []impl.Id {
	return []impl.Id{id(0, 1), id(0, 50), id(1, 1), id(2, 25), id(2, 26), id(4, 1), id(4, 50)}
}

// listsOfDeps lists sorted ids of each length: of one replica alone, of each replica, at the limits, and any others.
func listsOfDeps() [][]impl.Id {
	random := rand.New(rand.NewSource(24))
	all := validIds()
	lists := [][]impl.Id{nil, {}, make([]impl.Id, 0, 20)}
	for _, replica := range []int{0, 2, 4} {
		own := all[replica*50 : replica*50+50]
		lists = append(lists, own[:1], own[49:], own[:12], own[38:], own[20:31], []impl.Id{own[0], own[49]})
	}
	for from := 35; from < 240; from += 50 {
		lists = append(lists, all[from:min(from+12, 250)], all[from+9:from+15])
	}
	lists = append(lists,
		[]impl.Id{all[0], all[249]},
		[]impl.Id{id(0, 50), id(1, 1), id(1, 50), id(2, 1), id(2, 50), id(3, 1), id(3, 50), id(4, 1)},
		[]impl.Id{id(0, 7), id(1, 7), id(2, 7), id(3, 7), id(4, 7)},
		[]impl.Id{id(0, 9), id(0, 10), id(1, 8), id(4, 3), id(4, 30)},
	)
	for many := 1; many <= 12; many++ {
		for range 4 {
			lists = append(lists, sortedIds(random, many))
		}
	}
	for i, list := range lists {
		lists[i] = slices.Clip(list)
	}
	return lists
}

func TestDepsValid(t *testing.T) {
	for _, list := range listsOfDeps() {
		if !impl.DepsValid(list) {
			t.Errorf("%v is not valid", list)
		}
		checkOne(t, list)
	}
	for _, list := range partsOf(fewIds()) {
		if !impl.DepsValid(list) {
			t.Errorf("%v is not valid", list)
		}
		checkOne(t, list)
	}
}

// All lists of up to 4 of some ids, valid and invalid, in any order.
func TestDepsShortLists(t *testing.T) {
	ids := []impl.Id{id(-1, 1), id(0, 0), id(0, 1), id(0, 50), id(0, 51), id(1, 1), id(2, 25), id(4, 50), id(5, 1)}
	row := [][]impl.Id{{}}
	for range 4 {
		var longer [][]impl.Id
		for _, list := range row {
			for _, a := range ids {
				longer = append(longer, append(slices.Clip(list), a))
			}
		}
		row = longer
		for _, list := range row {
			checkOne(t, list)
			checkTwo(t, list, []impl.Id{id(0, 1), id(0, 50), id(2, 25)})
			checkTwo(t, []impl.Id{id(0, 1), id(2, 25)}, list)
		}
	}
}

// Each one and each two ids: only one order is valid.
func TestDepsFew(t *testing.T) {
	all := validIds()
	for i, a := range all {
		checkOne(t, []impl.Id{a})
		checkTwo(t, []impl.Id{a}, nil)
		checkTwo(t, nil, []impl.Id{a})
		for j, b := range all {
			if got := impl.DepsValid([]impl.Id{a, b}); got != (i < j) {
				t.Fatalf("DepsValid of %v and %v is %v", a, b, got)
			}
			got, ok := impl.DepsJoin([]impl.Id{a}, []impl.Id{b})
			want := slices.Compact([]impl.Id{all[min(i, j)], all[max(i, j)]})
			if !ok || !slices.Equal(got, want) {
				t.Fatalf("DepsJoin of %v and %v is %v, %v", a, b, got, ok)
			}
			if got := impl.DepsWithin([]impl.Id{a}, []impl.Id{b}); got != (i == j) {
				t.Fatalf("DepsWithin of %v and %v is %v", a, b, got)
			}
			if i < j {
				checkOne(t, []impl.Id{a, b})
				checkTwo(t, []impl.Id{a}, []impl.Id{a, b})
			}
		}
	}
}

// IdsMax ids in order are valid, and one more are not, wherever they begin.
func TestDepsLimit(t *testing.T) {
	all := validIds()
	for from := 0; from+12 <= len(all); from++ {
		if !impl.DepsValid(all[from : from+12]) {
			t.Fatalf("%v is not valid", all[from:from+12])
		}
		checkOne(t, all[from:from+12])
		if from+13 <= len(all) {
			wantNotSorted(t, all[from:from+13])
		}
	}
	random := rand.New(rand.NewSource(25))
	for range 100 {
		if list := sortedIds(random, 12); !impl.DepsValid(list) {
			t.Fatalf("%v is not valid", list)
		}
		wantNotSorted(t, sortedIds(random, 13))
	}
	for _, many := range []int{13, 14, 24, 50, 51, 64, 65, 100, 249, 250} {
		wantNotSorted(t, all[:many])
		wantNotSorted(t, all[250-many:])
	}
	wantNotSorted(t, slices.Repeat(all, 400))
	wantNotSorted(t, slices.Repeat(all[:12], 10000))
}

func TestDepsOutOfOrder(t *testing.T) {
	for _, list := range listsOfDeps() {
		for i := 1; i < len(list); i++ {
			swapped := slices.Clone(list)
			swapped[i-1], swapped[i] = swapped[i], swapped[i-1]
			wantNotSorted(t, swapped)
			wantNotSorted(t, slices.Concat(list[i:], list[:i]))
			ends := slices.Clone(list)
			ends[0], ends[i] = ends[i], ends[0]
			wantNotSorted(t, ends)
		}
		if len(list) > 1 {
			backwards := slices.Clone(list)
			slices.Reverse(backwards)
			wantNotSorted(t, backwards)
		}
	}
	for _, list := range [][]impl.Id{
		{id(1, 1), id(0, 2)}, {id(1, 1), id(0, 1)}, {id(4, 1), id(0, 50)}, {id(2, 10), id(2, 9)}, {id(0, 1), id(3, 5), id(3, 4)},
		{id(0, 1), id(1, 1), id(2, 1), id(0, 2), id(1, 2), id(2, 2)}, {id(0, 5), id(1, 4), id(2, 3), id(3, 2), id(3, 1)},
	} {
		wantNotSorted(t, list)
	}
}

// Promise 31, and ids twice side by side and apart.
func TestDepsWithoutOneAndTwice(t *testing.T) {
	for _, list := range listsOfDeps() {
		for i, a := range list {
			if without := slices.Delete(slices.Clone(list), i, i+1); !impl.DepsValid(without) {
				t.Fatalf("%v is not valid", without)
			}
			for place := 0; place <= len(list); place++ {
				wantNotSorted(t, slices.Insert(slices.Clone(list), place, a))
			}
			for place := range list {
				if place != i {
					instead := slices.Clone(list)
					instead[place] = a
					wantNotSorted(t, instead)
				}
			}
		}
	}
	wantNotSorted(t, []impl.Id{id(0, 1), id(0, 1)})
	wantNotSorted(t, []impl.Id{id(4, 50), id(4, 50)})
	wantNotSorted(t, slices.Repeat([]impl.Id{id(2, 2)}, 12))
}

// One invalid id spoils the list at each place, also where it stands in order.
func TestDepsInvalidId(t *testing.T) {
	lists := [][]impl.Id{
		{}, {id(0, 1)}, {id(4, 50)}, {id(1, 1), id(3, 50)}, fewIds(), validIds()[45:56], validIds()[195:207], validIds()[238:],
	}
	for _, bad := range invalidIds() {
		for _, list := range lists {
			for place := 0; place <= len(list); place++ {
				wantNotSorted(t, slices.Insert(slices.Clone(list), place, bad))
			}
			for place := range list {
				instead := slices.Clone(list)
				instead[place] = bad
				wantNotSorted(t, instead)
			}
		}
	}
	for _, list := range [][]impl.Id{
		{id(-1, 1), id(0, 1)}, {id(-1, 50), id(0, 1)}, {id(0, 0), id(0, 1)}, {id(0, 50), id(0, 51)}, {id(0, 50), id(0, 51), id(1, 1)},
		{id(0, 50), id(1, 0), id(1, 1)}, {id(4, 50), id(4, 51)}, {id(4, 50), id(5, 1)}, {id(4, 50), id(5, 50)}, {id(0, 1), id(0, 64)}, {id(0, 65)},
		{id(-1, 1)}, {id(5, 1)}, {id(0, 0)}, {id(4, 0)}, {id(0, 51)}, {id(4, 51)}, {{}}, {id(-5, -5), id(9, 99)},
	} {
		wantNotSorted(t, list)
	}
}

// The first argument bad, the second one, and both, in all ways in which one can be.
func TestDepsTwoInvalid(t *testing.T) {
	all := validIds()
	bad := [][]impl.Id{
		{id(1, 1), id(0, 1)}, {id(1, 1), id(1, 1)}, {id(0, 1), id(1, 1), id(0, 1)}, {id(-1, 1)}, {id(0, 1), id(5, 1)}, {id(0, 0), id(0, 1)}, {id(4, 50), id(4, 51)}, {{}}, all[:13], all,
	}
	for _, a := range bad {
		wantNotSorted(t, a)
		for _, good := range listsOfDeps() {
			checkTwo(t, a, good)
			checkTwo(t, good, a)
			if impl.DepsWithin(good, a) || impl.DepsWithin(a, good) {
				t.Fatalf("DepsWithin holds for %v and %v in one direction", a, good)
			}
		}
		for _, b := range bad {
			checkTwo(t, a, b)
			if got, ok := impl.DepsJoin(a, b); ok || len(got) != 0 {
				t.Fatalf("DepsJoin(%v, %v) is %v, %v", a, b, got, ok)
			}
		}
	}
}

// checkJoinWords holds two lists of sorted ids that can be joined against the promises 24 to 26.
func checkJoinWords(t *testing.T, a, b []impl.Id) {
	t.Helper()
	both, ok := impl.DepsJoin(a, b)
	if !ok {
		t.Fatalf("DepsJoin(%v, %v) fails", a, b)
	}
	if !impl.DepsValid(both) || !impl.DepsWithin(a, both) || !impl.DepsWithin(b, both) {
		t.Fatalf("DepsJoin(%v, %v) is %v", a, b, both)
	}
	for _, x := range both {
		if !slices.Contains(a, x) && !slices.Contains(b, x) {
			t.Fatalf("DepsJoin(%v, %v) has %v", a, b, x)
		}
	}
	for _, pair := range [][2][]impl.Id{{b, a}, {both, a}, {a, both}, {both, b}, {b, both}, {both, both}, {both, nil}, {nil, both}, {both, {}}} {
		if again, ok := impl.DepsJoin(pair[0], pair[1]); !ok || !slices.Equal(again, both) {
			t.Fatalf("DepsJoin(%v, %v) is %v, %v, not %v", pair[0], pair[1], again, ok, both)
		}
	}
	if alone, ok := impl.DepsJoin(a, nil); !ok || !slices.Equal(alone, a) {
		t.Fatalf("DepsJoin of %v and none is %v, %v", a, alone, ok)
	}
}

// checkWithinWords holds two lists of sorted ids against the promises 27 and 28.
func checkWithinWords(t *testing.T, a, b []impl.Id) {
	t.Helper()
	forth, back := impl.DepsWithin(a, b), impl.DepsWithin(b, a)
	if both, ok := impl.DepsJoin(a, b); forth && (!ok || !slices.Equal(both, b)) {
		t.Fatalf("DepsWithin(%v, %v) holds, but DepsJoin is %v, %v", a, b, both, ok)
	}
	if (forth && back) != slices.Equal(a, b) {
		t.Fatalf("DepsWithin(%v, %v) is %v, and %v in the other direction", a, b, forth, back)
	}
}

// Promises 24 to 28, for each two parts of a few ids.
func TestDepsJoinParts(t *testing.T) {
	parts := partsOf(fewIds())
	for _, a := range parts {
		for _, b := range parts {
			checkTwo(t, a, b)
			checkJoinWords(t, a, b)
			checkWithinWords(t, a, b)
		}
	}
}

// Promises 24 to 28, for lists of each length.
func TestDepsJoinLists(t *testing.T) {
	lists := listsOfDeps()
	for _, a := range lists {
		for _, b := range lists {
			checkTwo(t, a, b)
			checkWithinWords(t, a, b)
			if _, ok := wantJoin(a, b); ok {
				checkJoinWords(t, a, b)
			}
		}
	}
}

// overlap returns two lists of sorted ids with so many ids in both, and so many in each one alone.
func overlap(random *rand.Rand, common, first, second int) ([]impl.Id, []impl.Id) {
	ids := someIds(random, common+first+second)
	a := slices.Concat(ids[:common], ids[common:common+first])
	b := slices.Concat(ids[:common], ids[common+first:])
	return inOrder(a), inOrder(b)
}

// What counts for a join is how many different ids there are, not how many both lists have together.
func TestDepsJoinLimit(t *testing.T) {
	random := rand.New(rand.NewSource(26))
	for common := 0; common <= 12; common++ {
		for first := 0; common+first <= 12; first++ {
			for second := 0; common+second <= 12; second++ {
				for range 3 {
					a, b := overlap(random, common, first, second)
					checkTwo(t, a, b)
					checkWithinWords(t, a, b)
					got, ok := impl.DepsJoin(a, b)
					if fits := common+first+second <= 12; ok != fits {
						t.Fatalf("DepsJoin(%v, %v) is %v, %v", a, b, got, ok)
					} else if fits {
						checkJoinWords(t, a, b)
					}
				}
			}
		}
	}
}

func TestDepsJoinEdges(t *testing.T) {
	all := validIds()
	for _, test := range []struct {
		name string
		a, b []impl.Id
		want []impl.Id
		ok   bool
	}{
		{"no ids", nil, nil, nil, true},
		{"nil and empty", nil, []impl.Id{}, nil, true},
		{"some and none", all[3:6], []impl.Id{}, all[3:6], true},
		{"none and some", nil, all[3:6], all[3:6], true},
		{"one behind the other", all[:3], all[3:7], all[:7], true},
		{"one ahead of the other", all[3:7], all[:3], all[:7], true},
		{"one between the others", []impl.Id{id(0, 1), id(4, 50)}, []impl.Id{id(2, 2)}, []impl.Id{id(0, 1), id(2, 2), id(4, 50)}, true},
		{"in turn", []impl.Id{id(0, 2), id(1, 2), id(2, 2)}, []impl.Id{id(0, 1), id(1, 3), id(2, 1)}, []impl.Id{id(0, 1), id(0, 2), id(1, 2), id(1, 3), id(2, 1), id(2, 2)}, true},
		{"the same numbers of other replicas", []impl.Id{id(0, 5), id(2, 5)}, []impl.Id{id(1, 5), id(3, 5)}, []impl.Id{id(0, 5), id(1, 5), id(2, 5), id(3, 5)}, true},
		{"both the same", all[100:112], all[100:112], all[100:112], true},
		{"12 of 24", all[45:57], slices.Clone(all[45:57]), all[45:57], true},
		{"12 of 13", all[45:51], all[50:57], all[45:57], true},
		{"12 of 12", all[45:51], all[51:57], all[45:57], true},
		{"12 and none", all[45:57], nil, all[45:57], true},
		{"12, and one that is there", all[45:57], all[50:51], all[45:57], true},
		{"12, and one that is not", all[45:57], all[57:58], nil, false},
		{"one ahead, and 12", all[:1], all[1:13], nil, false},
		{"13 of 13", all[:6], all[6:13], nil, false},
		{"13 of 24", all[:12], all[1:13], nil, false},
		{"24 of 24", all[:12], all[238:], nil, false},
	} {
		if got, ok := impl.DepsJoin(test.a, test.b); ok != test.ok || !slices.Equal(got, test.want) {
			t.Errorf("%s: DepsJoin is %v, %v", test.name, got, ok)
		}
		checkTwo(t, test.a, test.b)
		checkTwo(t, test.b, test.a)
	}
}

func TestDepsWithinEdges(t *testing.T) {
	all := validIds()
	for _, test := range []struct {
		name        string
		a, b        []impl.Id
		forth, back bool
	}{
		{"no ids", nil, nil, true, true},
		{"nil and empty", nil, []impl.Id{}, true, true},
		{"none and one", nil, all[:1], true, false},
		{"none and 12", []impl.Id{}, all[238:], true, false},
		{"the same", all[40:52], slices.Clone(all[40:52]), true, true},
		{"the same in one memory", all[40:52], all[40:52], true, true},
		{"without the first", all[41:52], all[40:52], true, false},
		{"without the last", all[40:51], all[40:52], true, false},
		{"the ends", []impl.Id{all[40], all[51]}, all[40:52], true, false},
		{"one more at the end", all[40:52], all[41:53], false, false},
		{"some in both", all[40:46], all[43:52], false, false},
		{"none in both", all[40:46], all[46:52], false, false},
		{"the same numbers of another replica", []impl.Id{id(1, 7)}, []impl.Id{id(0, 7), id(2, 7)}, false, false},
		{"other numbers of the same replica", []impl.Id{id(3, 1)}, []impl.Id{id(3, 2), id(3, 50)}, false, false},
	} {
		if impl.DepsWithin(test.a, test.b) != test.forth || impl.DepsWithin(test.b, test.a) != test.back {
			t.Errorf("%s: DepsWithin is not %v, or not %v in the other direction", test.name, test.forth, test.back)
		}
	}
	for _, list := range listsOfDeps() {
		for i := range list {
			without := slices.Delete(slices.Clone(list), i, i+1)
			if !impl.DepsWithin(without, list) || impl.DepsWithin(list, without) {
				t.Fatalf("DepsWithin of %v and %v is wrong in one direction", without, list)
			}
		}
	}
}

// checkLatestWords holds sorted ids against the promises 29 and 30.
func checkLatestWords(t *testing.T, list []impl.Id) {
	t.Helper()
	latest := impl.DepsLatest(list)
	has := map[int]bool{}
	for i, a := range latest {
		has[a.Replica] = true
		if !slices.Contains(list, a) || i > 0 && latest[i-1].Replica >= a.Replica {
			t.Fatalf("DepsLatest(%v) is %v", list, latest)
		}
		for _, b := range list {
			if b.Replica == a.Replica && b.Number > a.Number {
				t.Fatalf("DepsLatest(%v) is %v, with %v ahead of %v", list, latest, a, b)
			}
		}
	}
	for _, a := range list {
		if !has[a.Replica] {
			t.Fatalf("DepsLatest(%v) is %v, without the replica of %v", list, latest, a)
		}
	}
	if again := impl.DepsLatest(latest); !slices.Equal(again, latest) {
		t.Fatalf("DepsLatest(%v) is %v", latest, again)
	}
}

// Promises 29 and 30.
func TestDepsLatest(t *testing.T) {
	lists := append(listsOfDeps(), partsOf(fewIds())...)
	random := rand.New(rand.NewSource(29))
	for range 3000 {
		lists = append(lists, sortedIds(random, 1+random.Intn(12)))
	}
	for _, list := range lists {
		checkOne(t, list)
		checkLatestWords(t, list)
	}
	for from := 0; from+12 <= 250; from++ {
		for many := 1; many <= 12; many++ {
			checkLatestWords(t, validIds()[from:from+many])
		}
	}
}

func TestDepsLatestEdges(t *testing.T) {
	all := validIds()
	for _, test := range []struct {
		name       string
		list, want []impl.Id
	}{
		{"nil", nil, nil},
		{"empty", []impl.Id{}, nil},
		{"the first id", all[:1], all[:1]},
		{"the last id", all[249:], all[249:]},
		{"12 of the first replica", all[:12], all[11:12]},
		{"12 of the last replica", all[238:], all[249:]},
		{"12 of one between", all[110:122], all[121:122]},
		{"two numbers of two digits", []impl.Id{id(1, 9), id(1, 10)}, []impl.Id{id(1, 10)}},
		{"one of each", []impl.Id{id(0, 50), id(1, 1), id(2, 25), id(3, 1), id(4, 50)}, []impl.Id{id(0, 50), id(1, 1), id(2, 25), id(3, 1), id(4, 50)}},
		{"many of each", []impl.Id{id(0, 1), id(0, 2), id(0, 50), id(1, 1), id(1, 3), id(2, 4), id(2, 5), id(3, 8), id(3, 9), id(3, 10), id(4, 49), id(4, 50)}, []impl.Id{id(0, 50), id(1, 3), id(2, 5), id(3, 10), id(4, 50)}},
		{"the first and the last replica", []impl.Id{id(0, 1), id(0, 3), id(4, 2), id(4, 9)}, []impl.Id{id(0, 3), id(4, 9)}},
		{"replicas missing between", []impl.Id{id(1, 30), id(1, 40), id(3, 2)}, []impl.Id{id(1, 40), id(3, 2)}},
		{"numbers that descend by replica", []impl.Id{id(0, 9), id(1, 8), id(2, 7), id(2, 8)}, []impl.Id{id(0, 9), id(1, 8), id(2, 8)}},
		{"13 in order", all[:13], nil},
		{"backwards", []impl.Id{id(1, 2), id(0, 1)}, nil},
		{"one of each, backwards at the end", []impl.Id{id(0, 1), id(1, 1), id(3, 1), id(2, 1)}, nil},
		{"twice", []impl.Id{id(1, 2), id(1, 2)}, nil},
		{"an invalid one behind", []impl.Id{id(1, 2), id(1, 51)}, nil},
		{"an invalid one ahead", []impl.Id{id(1, 0), id(1, 1)}, nil},
	} {
		if got := impl.DepsLatest(test.list); !slices.Equal(got, test.want) {
			t.Errorf("%s: DepsLatest is %v", test.name, got)
		}
		checkOne(t, test.list)
	}
}

// roomy returns a list in a longer memory with other ids behind its end, and all of that memory.
func roomy(list []impl.Id) ([]impl.Id, []impl.Id) {
	whole := append(append(make([]impl.Id, 0, len(list)+30), list...), id(3, 33), id(-1, 99), id(4, 50))
	return whole[:len(list)], whole
}

func TestDepsLatestMemory(t *testing.T) {
	lists := append(listsOfDeps(), []impl.Id{id(2, 1), id(1, 1)}, []impl.Id{id(5, 1)}, validIds()[:13])
	for _, list := range lists {
		given, whole := roomy(list)
		before, want := slices.Clone(whole), wantLatest(list)
		first, second := impl.DepsLatest(given), impl.DepsLatest(given)
		third := impl.DepsLatest(first)
		impl.DepsValid(given)
		if !slices.Equal(whole, before) || sharing(whole, first, second, third) {
			t.Fatalf("DepsLatest of %v changes or shares what it is given", list)
		}
		spoilIds(first)
		if !slices.Equal(whole, before) || !slices.Equal(second, want) || !slices.Equal(third, want) {
			t.Errorf("behind DepsLatest of %v, its result changes %v, %v or %v", list, whole, second, third)
		}
		spoilIds(given)
		if !slices.Equal(second, want) || !slices.Equal(third, want) {
			t.Errorf("behind DepsLatest of %v, its argument changes %v or %v", list, second, third)
		}
	}
}

// checkJoinMemory checks that DepsJoin neither changes its arguments nor gives out their memory.
func checkJoinMemory(t *testing.T, a, b []impl.Id) {
	t.Helper()
	x, xWhole := roomy(a)
	y, yWhole := roomy(b)
	xBefore, yBefore := slices.Clone(xWhole), slices.Clone(yWhole)
	want, _ := wantJoin(a, b)
	first, _ := impl.DepsJoin(x, y)
	second, _ := impl.DepsJoin(x, y)
	third, _ := impl.DepsJoin(y, x)
	impl.DepsWithin(x, y)
	if !slices.Equal(xWhole, xBefore) || !slices.Equal(yWhole, yBefore) || sharing(xWhole, yWhole, first, second, third) {
		t.Fatalf("DepsJoin of %v and %v changes or shares what it is given", a, b)
	}
	spoilIds(first)
	if !slices.Equal(xWhole, xBefore) || !slices.Equal(yWhole, yBefore) || !slices.Equal(second, want) || !slices.Equal(third, want) {
		t.Fatalf("behind DepsJoin of %v and %v, its result changes an argument or another result", a, b)
	}
	spoilIds(x)
	if !slices.Equal(yWhole, yBefore) || !slices.Equal(second, want) || !slices.Equal(third, want) {
		t.Fatalf("behind DepsJoin of %v and %v, the first argument changes a result", a, b)
	}
	spoilIds(y)
	if !slices.Equal(second, want) || !slices.Equal(third, want) {
		t.Fatalf("behind DepsJoin of %v and %v, the second argument changes a result", a, b)
	}
}

// Also where one of both is all that is returned, where both are the same, and where DepsJoin fails.
func TestDepsJoinMemory(t *testing.T) {
	lists := append(listsOfDeps(), []impl.Id{id(2, 1), id(1, 1)}, []impl.Id{id(5, 1)}, []impl.Id{id(1, 1), id(1, 1)}, validIds()[:13])
	for _, a := range lists {
		for _, b := range lists {
			checkJoinMemory(t, a, b)
		}
		for i := range a {
			checkJoinMemory(t, a, a[:i])
			checkJoinMemory(t, a[i:], a)
		}
	}
}

// Both arguments may be the same memory, or parts of it that overlap.
func TestDepsJoinOneMemory(t *testing.T) {
	all := validIds()
	for _, test := range []struct{ aFrom, aTo, bFrom, bTo int }{{0, 12, 0, 12}, {0, 8, 4, 12}, {4, 12, 0, 8}, {0, 12, 12, 12}, {0, 6, 6, 12}, {0, 12, 3, 4}, {0, 12, 1, 13}, {5, 5, 5, 5}} {
		given, whole := roomy(all[40:53])
		before := slices.Clone(whole)
		a, b := given[test.aFrom:test.aTo], given[test.bFrom:test.bTo]
		want, wantOk := wantJoin(a, b)
		wantIn := wantWithin(a, b)
		got, ok := impl.DepsJoin(a, b)
		if in := impl.DepsWithin(a, b); in != wantIn || ok != wantOk || !slices.Equal(got, want) {
			t.Errorf("DepsJoin(%v, %v) is %v, %v, and DepsWithin %v", a, b, got, ok, in)
		}
		if !slices.Equal(whole, before) || sharing(whole, got) {
			t.Errorf("DepsJoin(%v, %v) changes or shares what it is given", a, b)
		}
		spoilIds(got)
		if !slices.Equal(whole, before) {
			t.Errorf("behind DepsJoin of one memory, its result changes %v", whole)
		}
	}
}

// idsOfBytes makes of each byte an id; the number 51 and the replica 5, which are out of range, are among them.
func idsOfBytes(bytes []byte) []impl.Id {
	var list []impl.Id
	for _, b := range bytes {
		list = append(list, id(int(b)/51, int(b)%51+1))
	}
	return list
}

func FuzzDeps(f *testing.F) {
	f.Add([]byte{}, []byte{})
	f.Add([]byte{0, 1, 60, 254}, []byte{0, 61, 62})
	f.Add([]byte{7, 7}, []byte{50})
	f.Add([]byte{0, 1, 2, 3, 4, 5, 6, 7, 8, 9, 10, 11}, []byte{0, 1, 2, 3, 4, 5, 6, 7, 8, 9, 10, 11, 12})
	f.Fuzz(func(t *testing.T, first, second []byte) {
		a, b := idsOfBytes(first), idsOfBytes(second)
		checkOne(t, a)
		checkOne(t, b)
		checkTwo(t, a, b)
		if _, ok := wantJoin(a, b); ok {
			checkJoinWords(t, a, b)
			checkWithinWords(t, a, b)
			checkLatestWords(t, a)
			checkJoinMemory(t, a, b)
		}
	})
}
