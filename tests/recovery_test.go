package tests

import (
	"math"
	"math/rand"
	"reflect"
	"slices"
	"strconv"
	"strings"
	"testing"

	"loop.example/leaderlesslog/impl"
)

// knownBy lists the entries of the answers that know one.
func knownBy(list []impl.Answer) []impl.Entry {
	var known []impl.Entry
	for _, x := range list {
		if x.Knows {
			known = append(known, x.Entry)
		}
	}
	return known
}

// wantAnswersValid reports whether answers are valid, by the words of the document.
func wantAnswersValid(n int, a impl.Id, list []impl.Answer) bool {
	if _, idValid := places[a]; !idValid || n < 1 || n > 5 {
		return false
	}
	left := list
	for replica := range n {
		if len(left) > 0 && left[0].From == replica {
			left = left[1:]
		}
	}
	known := knownBy(list)
	for _, e := range known {
		if !wantEntry(e) || e.Id != a || e.What != known[0].What {
			return false
		}
	}
	return len(left) == 0 && !slices.ContainsFunc(list, func(x impl.Answer) bool { return !x.Knows && !zeroEntry(x.Entry) })
}

// wantPick returns what RecoverPick has to return, by the words of the document.
func wantPick(n int, a impl.Id, list []impl.Answer) (impl.Entry, int) {
	if !wantAnswersValid(n, a, list) {
		return impl.Entry{}, 6
	}
	if len(list) < wantSlow(n) {
		return impl.Entry{}, 0
	}
	known := knownBy(list)
	for _, status := range []int{3, 2} {
		for _, e := range known {
			if e.Status == status && !slices.ContainsFunc(known, func(x impl.Entry) bool { return x.Status == status && x.Ballot > e.Ballot }) {
				return impl.Entry{Id: a, Status: 2, What: e.What, Seq: e.Seq, Deps: e.Deps}, 4 - status
			}
		}
	}
	for _, e := range known {
		if sameMany(known, e) >= wantMeet(n, len(list)) {
			return impl.Entry{Id: a, Status: 2, What: e.What, Seq: e.Seq, Deps: e.Deps}, 3
		}
	}
	if len(known) == 0 {
		return impl.Entry{Id: a, Status: 2, What: none(), Seq: 1}, 5
	}
	rank, given := 0, map[impl.Id]bool{}
	for _, e := range known {
		rank = max(rank, e.Seq)
		for _, b := range e.Deps {
			given[b] = true
		}
	}
	all := slices.DeleteFunc(validIds(), func(b impl.Id) bool { return !given[b] })
	if len(all) > 12 {
		return impl.Entry{}, 6
	}
	return impl.Entry{Id: a, Status: 2, What: known[0].What, Seq: rank, Deps: all}, 4
}

// sameMany returns how many entries have the rank and the ids of an entry.
func sameMany(list []impl.Entry, e impl.Entry) int {
	many := 0
	for _, x := range list {
		if x.Seq == e.Seq && slices.Equal(x.Deps, e.Deps) {
			many++
		}
	}
	return many
}

func deepAnswers(list []impl.Answer) []impl.Answer {
	copied := []impl.Answer{}
	for _, x := range list {
		x.Entry = deepEntry(x.Entry)
		copied = append(copied, x)
	}
	return copied
}

func sameAnswers(a, b []impl.Answer) bool {
	return slices.EqualFunc(a, b, func(x, y impl.Answer) bool {
		return x.From == y.From && x.Knows == y.Knows && sameEntry(x.Entry, y.Entry)
	})
}

// checkPick holds AnswersValid and RecoverPick against the document, and against the words of the promises.
func checkPick(t *testing.T, n int, a impl.Id, list []impl.Answer) {
	t.Helper()
	before := deepAnswers(list)
	valid := impl.AnswersValid(n, a, list)
	if valid != wantAnswersValid(n, a, list) {
		t.Fatalf("AnswersValid(%d, %v, %v) is %v", n, a, list, valid)
	}
	want, wantWhy := wantPick(n, a, list)
	if got, why := impl.RecoverPick(n, a, list); why != wantWhy || !sameEntry(got, want) {
		t.Fatalf("RecoverPick(%d, %v, %v) is %v, %d, not %v, %d", n, a, list, got, why, want, wantWhy)
	}
	checkPickWords(t, n, a, list)
	if valid {
		checkAnswerWords(t, n, a, list)
	}
	if !sameAnswers(list, before) {
		t.Fatalf("AnswersValid or RecoverPick of %v makes it %v", before, list)
	}
}

// checkPickWords holds RecoverPick against the promises 84 to 89.
func checkPickWords(t *testing.T, n int, a impl.Id, list []impl.Answer) {
	t.Helper()
	e, why := impl.RecoverPick(n, a, list)
	known, same := knownBy(list), [4]int{}
	are, greatest := [4]int{}, -1
	picked := why != impl.PickBad && why != impl.PickFew
	if few := impl.AnswersValid(n, a, list) && len(list) < impl.SlowSize(n); few != (why == impl.PickFew) || !picked && !zeroEntry(e) {
		t.Fatalf("RecoverPick(%d, %v, %v) is %v, %d", n, a, list, e, why)
	}
	if !picked {
		return
	}
	for _, x := range known {
		are[x.Status]++
		if x.Status == impl.StatusTaken {
			greatest = max(greatest, x.Ballot)
		}
	}
	top := false
	for _, x := range known {
		if x.What == e.What && x.Seq == e.Seq && slices.Equal(x.Deps, e.Deps) {
			same[x.Status]++
			top = top || x.Status == impl.StatusTaken && x.Ballot == greatest
		}
	}
	holds := map[int]bool{
		impl.PickFixed: same[impl.StatusFixed] > 0,
		impl.PickTaken: are[impl.StatusFixed] == 0 && top,
		impl.PickFast:  same[impl.StatusSeen] >= impl.MeetSize(n, len(list)),
		impl.PickSeen:  !slices.ContainsFunc(known, func(x impl.Entry) bool { return x.Seq > e.Seq || !impl.DepsWithin(x.Deps, e.Deps) }),
		impl.PickNone:  e.What == none() && len(known) == 0,
	}
	if !holds[why] || (are[impl.StatusFixed] > 0) != (why == impl.PickFixed) || (len(known) == 0) != (why == impl.PickNone) {
		t.Fatalf("RecoverPick(%d, %v, %v) is %v, %d", n, a, list, e, why)
	}
	if e.Id != a || e.Status != impl.StatusTaken || e.Ballot != 0 || !impl.EntryValid(e) {
		t.Fatalf("RecoverPick(%d, %v, %v) is %v, %d", n, a, list, e, why)
	}
}

// checkAnswerWords holds valid answers against promise 90.
func checkAnswerWords(t *testing.T, n int, a impl.Id, list []impl.Answer) {
	t.Helper()
	for i, x := range list {
		if fewer := slices.Delete(slices.Clone(list), i, i+1); !impl.AnswersValid(n, a, fewer) {
			t.Fatalf("AnswersValid(%d, %v, %v) is false", n, a, fewer)
		}
		for place := range len(list) + 1 {
			if twice := slices.Insert(slices.Clone(list), place, x); impl.AnswersValid(n, a, twice) {
				t.Fatalf("AnswersValid(%d, %v, %v) is true", n, a, twice)
			}
		}
	}
}

// wantBad checks that answers are invalid, by the document, too, and that RecoverPick tells it, with the zero value.
func wantBad(t *testing.T, n int, a impl.Id, list []impl.Answer) {
	t.Helper()
	if wantAnswersValid(n, a, list) {
		t.Fatalf("%v should be invalid for %d replicas and %v", list, n, a)
	}
	if impl.AnswersValid(n, a, list) {
		t.Fatalf("AnswersValid(%d, %v, %v) is true", n, a, list)
	}
	if e, why := impl.RecoverPick(n, a, list); why != impl.PickBad || !zeroEntry(e) {
		t.Fatalf("RecoverPick(%d, %v, %v) is %v, %d", n, a, list, e, why)
	}
}

// wantGood checks that answers are valid, and holds RecoverPick against the document.
func wantGood(t *testing.T, n int, a impl.Id, list []impl.Answer) {
	t.Helper()
	if !impl.AnswersValid(n, a, list) {
		t.Fatalf("AnswersValid(%d, %v, %v) is false", n, a, list)
	}
	checkPick(t, n, a, list)
}

// told returns the answer of a word: of a replica that does not know the entry, for a hyphen, or else the letter of its status, its ballot, r, its rank, and behind a hyphen the letters that it depends on.
func told(from int, word string) impl.Answer {
	if word == "-" {
		return impl.Answer{From: from}
	}
	head, deps, _ := strings.Cut(word, "-")
	first, second, _ := strings.Cut(head[1:], "r")
	ballot, _ := strconv.Atoi(first)
	rank, _ := strconv.Atoi(second)
	e := impl.Entry{Id: letter('m'), Ballot: ballot, Status: 1 + strings.IndexByte("stf", head[0]), What: put(1, 37), Seq: rank, Deps: lettersOf(deps)}
	return impl.Answer{From: from, Knows: true, Entry: e}
}

// toldBy returns the answers of a text that has a word for each replica, and how many replicas there are. A point is for one that does not answer.
func toldBy(text string) ([]impl.Answer, int) {
	list, words := []impl.Answer{}, strings.Fields(text)
	for replica, word := range words {
		if word != "." {
			list = append(list, told(replica, word))
		}
	}
	return list, len(words)
}

// answersFrom returns the answers of some replicas, all with an entry.
func answersFrom(e impl.Entry, replicas ...int) []impl.Answer {
	list := []impl.Answer{}
	for _, from := range replicas {
		list = append(list, impl.Answer{From: from, Knows: true, Entry: deepEntry(e)})
	}
	return list
}

// answersNone returns the answers of some replicas, none of which knows the entry.
func answersNone(replicas ...int) []impl.Answer {
	list := []impl.Answer{}
	for _, from := range replicas {
		list = append(list, impl.Answer{From: from})
	}
	return list
}

// setsOf lists all sets of replicas up to n-1, each of them ascending.
func setsOf(n int) [][]int {
	var sets [][]int
	for which := range 1 << n {
		set := []int{}
		for replica := range n {
			if which>>replica&1 == 1 {
				set = append(set, replica)
			}
		}
		sets = append(sets, set)
	}
	return sets
}

// withAnswer returns answers with another one at a place.
func withAnswer(list []impl.Answer, place int, x impl.Answer) []impl.Answer {
	list = deepAnswers(list)
	list[place] = x
	return list
}

// The helpers themselves must see what the tests rely on.
func TestRecoveryHelpers(t *testing.T) {
	list, n := toldBy("f12r3-ab . - s0r99 t999r1-z")
	want := []impl.Answer{
		{From: 0, Knows: true, Entry: impl.Entry{Id: letter('m'), Ballot: 12, Status: 3, What: put(1, 37), Seq: 3, Deps: lettersOf("ab")}},
		{From: 2},
		{From: 3, Knows: true, Entry: impl.Entry{Id: letter('m'), Status: 1, What: put(1, 37), Seq: 99}},
		{From: 4, Knows: true, Entry: impl.Entry{Id: letter('m'), Ballot: 999, Status: 2, What: put(1, 37), Seq: 1, Deps: lettersOf("z")}},
	}
	if n != 5 || !sameAnswers(list, want) || !wantAnswersValid(5, letter('m'), list) || sharing(list, deepAnswers(list)) {
		t.Errorf("toldBy is %v, %d", list, n)
	}
	for n := -1; n <= 6; n++ {
		for from := -1; from <= 6; from++ {
			if got := wantAnswersValid(n, id(0, 1), answersNone(from)); got != (n >= 1 && n <= 5 && from >= 0 && from < n) {
				t.Errorf("wantAnswersValid of %d replicas and an answer of %d is %v", n, from, got)
			}
		}
	}
	if wantAnswersValid(5, letter('a'), list) || wantAnswersValid(4, letter('m'), list) || wantAnswersValid(5, letter('m'), append(list, list[3])) || wantAnswersValid(5, letter('m'), []impl.Answer{list[1], list[0]}) {
		t.Errorf("wantAnswersValid holds for what is invalid")
	}
	for text, want := range map[string]int{"s0r1 . .": 0, "f0r1 t0r1 .": 1, "t0r1 s0r1 .": 2, "s0r1 s0r1 .": 3, "s0r1 s0r2 .": 4, "- - .": 5, "s0r1-abcdefg s0r1-hijklno .": 6} {
		list, n := toldBy(text)
		e, why := wantPick(n, letter('m'), list)
		if why != want || (why == 0 || why == 6) != zeroEntry(e) || !zeroEntry(e) && (!wantEntry(e) || e.Ballot != 0 || e.Status != 2) {
			t.Errorf("wantPick of %s is %v, %d", text, e, why)
		}
	}
	if sets := setsOf(3); len(sets) != 8 || !slices.Equal(sets[5], []int{0, 2}) || len(sets[0]) != 0 {
		t.Errorf("setsOf is %v", sets)
	}
	if many := sameMany(knownBy(list), list[2].Entry); many != 1 || len(knownBy(list)) != 3 {
		t.Errorf("sameMany is %d", many)
	}
}

func TestPickConstants(t *testing.T) {
	got := []int{impl.PickFew, impl.PickFixed, impl.PickTaken, impl.PickFast, impl.PickSeen, impl.PickNone, impl.PickBad}
	if !slices.Equal(got, []int{0, 1, 2, 3, 4, 5, 6}) {
		t.Errorf("the constants are %v", got)
	}
}

// No answers, one answer, and one of each replica, for each number of replicas and for others.
func TestAnswersValidSizes(t *testing.T) {
	e := told(0, "t7r3-ab").Entry
	for _, n := range append(edgeSizes(), 1, 2, 3, 4, 5) {
		lists := [][]impl.Answer{nil, {}, make([]impl.Answer, 0, 9), answersFrom(e, 0)[:0]}
		for _, set := range [][]int{{0}, {0, 1}, {0, 1, 2}, {0, 1, 2, 3}, {0, 1, 2, 3, 4}, {0, 1, 2, 3, 4, 5}, {4}, {n - 1}, {n}} {
			lists = append(lists, answersNone(set...), answersFrom(e, set...))
		}
		for _, list := range lists {
			if n < 1 || n > 5 {
				wantBad(t, n, e.Id, list)
			} else if len(list) == 0 {
				wantGood(t, n, e.Id, list)
			}
			checkPick(t, n, e.Id, list)
		}
		if n >= 1 && n <= 5 {
			all := []int{0, 1, 2, 3, 4}
			wantGood(t, n, e.Id, answersFrom(e, all[:n]...))
			wantGood(t, n, e.Id, answersNone(all[:n]...))
			wantGood(t, n, e.Id, answersFrom(e, n-1))
		}
	}
	for n := -60; n <= 60; n++ {
		checkPick(t, n, e.Id, nil)
		checkPick(t, n, e.Id, answersNone(0))
	}
}

// One answer of each replica there is, and of those that there are not.
func TestAnswersValidFrom(t *testing.T) {
	e := told(0, "s7r3-ab").Entry
	replicas := append(farNumbers(), edgeReplicas()...)
	for from := -12; from <= 12; from++ {
		replicas = append(replicas, from)
	}
	for n := 1; n <= 5; n++ {
		for _, from := range replicas {
			for _, list := range [][]impl.Answer{answersNone(from), answersFrom(e, from)} {
				if from >= 0 && from < n {
					wantGood(t, n, e.Id, list)
					continue
				}
				wantBad(t, n, e.Id, list)
				// It is not fine either behind or ahead of all others.
				all := answersFrom(e, []int{0, 1, 2, 3, 4}[:n]...)
				wantBad(t, n, e.Id, append(all, list...))
				wantBad(t, n, e.Id, append(list, all...))
			}
		}
	}
}

// Answers of replicas in each order, of which some are there twice or are none.
func TestAnswersValidOrder(t *testing.T) {
	e := told(0, "s7r3-ab").Entry
	lists := [][]int{{}}
	for from := 0; from < len(lists) && len(lists[from]) < 4; from++ {
		for replica := -1; replica <= 5; replica++ {
			lists = append(lists, append(slices.Clone(lists[from]), replica))
		}
	}
	for _, replicas := range lists {
		for n := 1; n <= 5; n++ {
			ascends := !slices.ContainsFunc(replicas, func(from int) bool { return from < 0 || from >= n })
			for i := range replicas {
				ascends = ascends && (i == 0 || replicas[i-1] < replicas[i])
			}
			for _, list := range [][]impl.Answer{answersNone(replicas...), answersFrom(e, replicas...)} {
				if got := impl.AnswersValid(n, e.Id, list); got != ascends || got != wantAnswersValid(n, e.Id, list) {
					t.Fatalf("AnswersValid of %d replicas and answers of %v is %v", n, replicas, got)
				}
				if _, why := impl.RecoverPick(n, e.Id, list); (why == impl.PickBad) == ascends {
					t.Fatalf("RecoverPick of %d replicas and answers of %v is %d", n, replicas, why)
				}
			}
		}
	}
}

func TestAnswersValidOrderTable(t *testing.T) {
	e := told(0, "s7r3-ab").Entry
	for _, test := range []struct {
		name     string
		n        int
		replicas []int
		want     bool
	}{
		{"all", 5, []int{0, 1, 2, 3, 4}, true},
		{"all but the first one", 5, []int{1, 2, 3, 4}, true},
		{"all but the last one", 5, []int{0, 1, 2, 3}, true},
		{"all but one between", 5, []int{0, 1, 3, 4}, true},
		{"the first and the last one", 5, []int{0, 4}, true},
		{"descending", 5, []int{4, 3, 2, 1, 0}, false},
		{"two exchanged", 5, []int{0, 1, 3, 2, 4}, false},
		{"two exchanged, at the beginning", 5, []int{1, 0, 2}, false},
		{"two exchanged, at the end", 5, []int{0, 2, 1}, false},
		{"the first one at the end", 5, []int{1, 2, 3, 4, 0}, false},
		{"twice, side by side", 5, []int{0, 1, 1, 2}, false},
		{"twice, at the beginning", 5, []int{0, 0, 1}, false},
		{"twice, at the end", 5, []int{0, 4, 4}, false},
		{"twice, apart", 5, []int{0, 1, 0}, false},
		{"twice, far apart", 5, []int{2, 3, 4, 2}, false},
		{"one alone twice", 5, []int{3, 3}, false},
		{"more than replicas", 3, []int{0, 1, 2, 3}, false},
		{"more than replicas, some twice", 3, []int{0, 0, 1, 1, 2, 2}, false},
		{"more than ReplicasMax", 5, []int{0, 1, 2, 3, 4, 5}, false},
		{"one of another number of replicas", 2, []int{0, 2}, false},
		{"one just below", 5, []int{-1, 0}, false},
	} {
		// Whether one of them knows the entry or not is the same.
		for which := range 1 << len(test.replicas) {
			list := answersNone(test.replicas...)
			for i := range list {
				if which>>i&1 == 1 {
					list[i].Knows, list[i].Entry = true, e
				}
			}
			if got := impl.AnswersValid(test.n, e.Id, list); got != test.want {
				t.Errorf("%s: AnswersValid(%d, %v) is %v", test.name, test.n, list, got)
			}
			checkPick(t, test.n, e.Id, list)
		}
	}
	for _, many := range []int{6, 255, 256, 257, 1 << 16} {
		wantBad(t, 5, e.Id, slices.Repeat(answersNone(0), many))
		wantBad(t, 5, e.Id, slices.Repeat(answersFrom(e, 4), many))
		wantBad(t, 5, e.Id, slices.Repeat(answersFrom(e, 0, 1, 2, 3, 4), many))
	}
}

// Ids that are valid and that are not, with no answers, with answers that know nothing, and with entries that have the id.
func TestAnswersValidIds(t *testing.T) {
	for _, a := range append(validIds(), edgeIds()...) {
		_, want := places[a]
		e := impl.Entry{Id: a, Ballot: 5, Status: 1, What: none(), Seq: 2}
		for n := 1; n <= 5; n++ {
			lists := [][]impl.Answer{nil, answersNone(0), answersNone([]int{0, 1, 2, 3, 4}[:n]...), answersFrom(e, 0), answersFrom(e, n-1)}
			for _, list := range lists {
				if want {
					wantGood(t, n, a, list)
				} else {
					wantBad(t, n, a, list)
				}
			}
		}
	}
}

// Each two valid ids: that of an answer, and the one that is asked for.
func TestAnswersValidTwoIds(t *testing.T) {
	for _, a := range validIds() {
		list := answersFrom(impl.Entry{Id: a, Status: 1, What: none(), Seq: 1}, 0)
		for _, b := range validIds() {
			e, why := impl.RecoverPick(1, b, list)
			if a == b && (why != impl.PickFast || e.Id != a) || a != b && (why != impl.PickBad || !zeroEntry(e)) || impl.AnswersValid(1, b, list) != (a == b) {
				t.Fatalf("RecoverPick(1, %v, %v) is %v, %d", b, list, e, why)
			}
		}
	}
}

// unknownEntries lists entries that differ from the zero value in one part alone.
func unknownEntries() []impl.Entry {
	var list []impl.Entry
	for _, n := range []int{1, -1, 2, 3, 50, math.MinInt, math.MaxInt, 1 << 32} {
		list = append(list, impl.Entry{Id: id(n, 0)}, impl.Entry{Id: id(0, n)}, impl.Entry{Ballot: n}, impl.Entry{Status: n}, impl.Entry{Seq: n})
		list = append(list, impl.Entry{What: impl.Command{Kind: n}}, impl.Entry{What: impl.Command{Key: n}}, impl.Entry{What: impl.Command{Value: n}})
	}
	for _, deps := range [][]impl.Id{{{}}, {{}, {}}, lettersOf("a"), lettersOf("ab"), {id(-1, 0)}, validIds()[:12], validIds()} {
		list = append(list, impl.Entry{Deps: deps})
	}
	return list
}

// An answer that does not know the entry has the zero value, and nothing else, at each place.
func TestAnswersUnknown(t *testing.T) {
	e := told(0, "s7r3-ab").Entry
	for n := 1; n <= 5; n++ {
		all := []int{0, 1, 2, 3, 4}[:n]
		for _, list := range [][]impl.Answer{answersNone(all...), answersFrom(e, all...)} {
			for place := range n {
				for _, deps := range [][]impl.Id{nil, {}, make([]impl.Id, 0, 5), lettersOf("ab")[:0]} {
					wantGood(t, n, e.Id, withAnswer(list, place, impl.Answer{From: place, Entry: impl.Entry{Deps: deps}}))
				}
				for _, bad := range append(unknownEntries(), e, asEntry(e.Id), asEntry(letter('c'))) {
					wantBad(t, n, e.Id, withAnswer(list, place, impl.Answer{From: place, Entry: bad}))
				}
				wantBad(t, n, e.Id, withAnswer(list, place, impl.Answer{From: place, Knows: true}))
			}
		}
	}
}

// An entry that is invalid in one part alone, or has another id, at each place of each number of answers.
func TestAnswersInvalidEntry(t *testing.T) {
	for _, own := range ownEntries() {
		bads := []impl.Entry{}
		for _, bad := range spoiledEntries(own) {
			bads = append(bads, bad)
		}
		for _, bad := range strangers(own) {
			if bad.Id != own.Id {
				bads = append(bads, bad)
			}
		}
		for n := 1; n <= 5; n++ {
			for _, set := range setsOf(n)[1:] {
				for place, from := range set {
					for _, bad := range bads {
						wantBad(t, n, own.Id, withAnswer(answersFrom(own, set...), place, impl.Answer{From: from, Knows: true, Entry: bad}))
						wantBad(t, n, own.Id, withAnswer(answersNone(set...), place, impl.Answer{From: from, Knows: true, Entry: bad}))
					}
				}
			}
		}
	}
}

// All answers have the same id, but it is another one than that which is asked for.
func TestAnswersOtherId(t *testing.T) {
	for _, own := range ownEntries() {
		for _, x := range strangers(own) {
			if x.Id == own.Id {
				continue
			}
			for n := 1; n <= 5; n++ {
				for _, set := range setsOf(n)[1:] {
					wantBad(t, n, own.Id, answersFrom(x, set...))
					wantGood(t, n, x.Id, answersFrom(x, set...))
				}
			}
		}
	}
}

// Another command, of which the kind, the key or the value alone differs, at each place; where no other answer knows the entry, it is fine.
func TestAnswersOtherCommand(t *testing.T) {
	for _, own := range ownEntries() {
		for _, x := range otherCommands(own) {
			for n := 1; n <= 5; n++ {
				for _, set := range setsOf(n)[1:] {
					wantGood(t, n, own.Id, answersFrom(x, set...))
					for place, from := range set {
						other := impl.Answer{From: from, Knows: true, Entry: x}
						wantGood(t, n, own.Id, withAnswer(answersNone(set...), place, other))
						if len(set) > 1 {
							wantBad(t, n, own.Id, withAnswer(answersFrom(own, set...), place, other))
						}
					}
				}
			}
		}
	}
}

// Two commands at each two places, also with answers between that know nothing, and whatever the statuses are.
func TestAnswersTwoCommands(t *testing.T) {
	for first := range 5 {
		for second := first + 1; second < 5; second++ {
			for status := 1; status <= 3; status++ {
				for ballot := range 3 {
					list := answersNone(0, 1, 2, 3, 4)
					list[first], list[second] = told(first, "t1r4-ab"), told(second, "t1r4-ab")
					wantGood(t, 5, letter('m'), list)
					list[second].Entry.Status, list[second].Entry.Ballot = status, ballot
					wantGood(t, 5, letter('m'), list)
					for _, c := range []impl.Command{none(), read(1), add(1, 37), put(2, 37), put(1, 36), put(1, 38)} {
						list[second].Entry.What = c
						wantBad(t, 5, letter('m'), list)
					}
				}
			}
		}
	}
	for _, c := range validCommands() {
		list := answersFrom(impl.Entry{Id: letter('m'), Status: 1, What: c, Seq: 4}, 0, 2)
		e, why := impl.RecoverPick(3, letter('m'), list)
		if why != impl.PickFast || e.What != c {
			t.Fatalf("RecoverPick(3, %v) is %v, %d", list, e, why)
		}
		checkPick(t, 3, letter('m'), list)
	}
}

// Entries with other ballots, statuses, ranks and ids than the others are fine, at each place.
func TestAnswersOtherParts(t *testing.T) {
	for _, own := range ownEntries() {
		for _, x := range slices.Concat(otherBallots(own), notProposed(own), otherRanks(own), otherDeps(own)) {
			for n := 1; n <= 5; n++ {
				for place := range n {
					list := answersFrom(own, []int{0, 1, 2, 3, 4}[:n]...)
					wantGood(t, n, own.Id, withAnswer(list, place, impl.Answer{From: place, Knows: true, Entry: x}))
				}
			}
		}
	}
}

// Invalid answers are told, also where there are too few for a majority, and where one is fixed.
func TestRecoverBad(t *testing.T) {
	for n := 1; n <= 5; n++ {
		for _, set := range setsOf(n)[1:] {
			for _, word := range []string{"s0r1", "t3r2-ab", "f9r3-c", "-"} {
				for place := range set {
					list := []impl.Answer{}
					for _, from := range set {
						list = append(list, told(from, word))
					}
					list[place] = told(set[place], "f5r4")
					list[place].Entry.Seq = 0
					wantBad(t, n, letter('m'), list)
					list[place] = told(set[place]-n, word)
					wantBad(t, n, letter('m'), list)
					list[place] = impl.Answer{From: set[place], Entry: told(0, "s0r1").Entry}
					wantBad(t, n, letter('m'), list)
				}
				list := append(answersNone(set...), answersNone(set[len(set)-1])...)
				wantBad(t, n, letter('m'), list)
				wantBad(t, n, id(0, 0), answersNone(set...))
				wantBad(t, n, id(5, 1), answersNone(set...))
			}
		}
	}
}

// Fewer answers than a majority are too few, whatever they know, and as many as one are not: all sets of replicas, with answers that are all alike.
func TestRecoverFew(t *testing.T) {
	whys := map[string]int{"-": impl.PickNone, "s0r1": impl.PickFast, "s999r99-abcdefghijkl": impl.PickFast, "t0r1": impl.PickTaken, "t999r5-b": impl.PickTaken, "f0r1": impl.PickFixed, "f999r5-b": impl.PickFixed}
	for n, slow := range []int{0, 1, 2, 2, 3, 3} {
		for _, set := range setsOf(n) {
			for word, want := range whys {
				list := []impl.Answer{}
				for _, from := range set {
					list = append(list, told(from, word))
				}
				e, why := impl.RecoverPick(n, letter('m'), list)
				if n == 0 {
					want = impl.PickBad
				} else if len(list) < slow {
					want = impl.PickFew
				}
				if why != want || (len(list) < slow || n == 0) != zeroEntry(e) {
					t.Errorf("RecoverPick(%d, %v) is %v, %d, not %d", n, list, e, why, want)
				}
				checkPick(t, n, letter('m'), list)
			}
		}
	}
}

// With answers of which none knows the entry, a command that does nothing is picked, for each id.
func TestRecoverNone(t *testing.T) {
	for _, a := range validIds() {
		for n := 1; n <= 5; n++ {
			for _, set := range setsOf(n) {
				list := answersNone(set...)
				e, why := impl.RecoverPick(n, a, list)
				if 2*len(set) <= n {
					if why != impl.PickFew || !zeroEntry(e) {
						t.Fatalf("RecoverPick(%d, %v, %v) is %v, %d", n, a, list, e, why)
					}
					continue
				}
				want := impl.Entry{Id: a, Ballot: 0, Status: 2, What: impl.Command{Kind: 3}, Seq: 1}
				if why != impl.PickNone || !sameEntry(e, want) {
					t.Fatalf("RecoverPick(%d, %v, %v) is %v, %d", n, a, list, e, why)
				}
				// An empty slice of ids is the same as none.
				for i := range list {
					list[i].Entry.Deps = []impl.Id{}
				}
				if e, why := impl.RecoverPick(n, a, list); why != impl.PickNone || !sameEntry(e, want) {
					t.Fatalf("RecoverPick(%d, %v, %v) is %v, %d", n, a, list, e, why)
				}
			}
		}
	}
}

// pickTest is a text with a word for each replica, why an entry is picked, and the rank and the ids that it has.
type pickTest struct {
	name, text string
	why, rank  int
	deps       string
}

// checkPickTests holds RecoverPick against what is told.
func checkPickTests(t *testing.T, tests []pickTest) {
	t.Helper()
	for _, test := range tests {
		list, n := toldBy(test.text)
		e, why := impl.RecoverPick(n, letter('m'), list)
		if why != test.why || e.Seq != test.rank || asLetters(e.Deps) != test.deps {
			t.Errorf("%s: RecoverPick is %v, %d", test.name, e, why)
		}
		want := impl.Entry{}
		if test.rank > 0 {
			want = impl.Entry{Id: letter('m'), Ballot: 0, Status: impl.StatusTaken, What: put(1, 37), Seq: test.rank, Deps: lettersOf(test.deps)}
		}
		if !sameEntry(e, want) {
			t.Errorf("%s: RecoverPick is %v, %d", test.name, e, why)
		}
		checkPick(t, n, letter('m'), list)
	}
}

func TestRecoverFixedTable(t *testing.T) {
	many := "-abcdefghijkl"
	checkPickTests(t, []pickTest{
		{"one of one replica", "f5r3-ab", impl.PickFixed, 3, "ab"},
		{"one and one that is proposed", "f0r3-ab s9r4 .", impl.PickFixed, 3, "ab"},
		{"one behind one that is proposed", "s9r4 f0r3-ab .", impl.PickFixed, 3, "ab"},
		{"one at the end", ". s9r4 f0r3-ab", impl.PickFixed, 3, "ab"},
		{"one and those that know nothing", "- - f0r3 . .", impl.PickFixed, 3, ""},
		{"one, and taken ones with greater ballots", "t998r9-x f0r3-ab t999r8-y", impl.PickFixed, 3, "ab"},
		{"one, and a taken one with the same ballot", "t7r9-x f7r3-ab .", impl.PickFixed, 3, "ab"},
		{"one, and a taken one with a lesser ballot", "f7r3-ab t6r9-x .", impl.PickFixed, 3, "ab"},
		{"one, and taken ones that are all the same", "t5r9-x t5r9-x f0r3-ab t5r9-x t5r9-x", impl.PickFixed, 3, "ab"},
		{"one, and proposed ones that are all the same", "s9r9-x s9r9-x s9r9-x s9r9-x f0r3-ab", impl.PickFixed, 3, "ab"},
		{"one of two replicas", "s1r1 f0r2-a", impl.PickFixed, 2, "a"},
		{"the greatest ballot at the beginning", "f7r1-a f5r2-b f6r3-c", impl.PickFixed, 1, "a"},
		{"the greatest ballot in the middle", "f5r1-a f7r2-b f6r3-c", impl.PickFixed, 2, "b"},
		{"the greatest ballot at the end", "f5r1-a f6r2-b f7r3-c", impl.PickFixed, 3, "c"},
		{"ballots that descend", "f9r1-a f8r2-b f7r3-c f6r4-d f5r5-e", impl.PickFixed, 1, "a"},
		{"ballots that ascend", "f5r1-a f6r2-b f7r3-c f8r4-d f9r5-e", impl.PickFixed, 5, "e"},
		{"equal ballots", "f7r1-a f7r2-b f7r3-c f7r4-d f7r5-e", impl.PickFixed, 1, "a"},
		{"equal ballots, descending ranks", "f7r5-e f7r4-d f7r3-c f7r2-b f7r1-a", impl.PickFixed, 5, "e"},
		{"equal ballots behind a lesser one", "f6r1-a f7r2-b f7r3-c f7r4-d f7r5-e", impl.PickFixed, 2, "b"},
		{"equal ballots around a lesser one", "f7r1-a f6r2-b f7r3-c f6r4-d f7r5-e", impl.PickFixed, 1, "a"},
		{"equal ballots at the end", "f5r1-a f6r2-b f5r3-c f7r4-d f7r5-e", impl.PickFixed, 4, "d"},
		{"equal ballots of 0", "s9r1-a f0r2-b f0r3-c", impl.PickFixed, 2, "b"},
		{"the greatest ballots there are", "f998r1-a f999r2-b f0r3-c f999r4-d .", impl.PickFixed, 2, "b"},
		{"a lesser rank with the greatest ballot", "f5r99" + many + " f6r1 .", impl.PickFixed, 1, ""},
		{"a greater rank with the greatest ballot", "f5r1 f6r99" + many + " .", impl.PickFixed, 99, many[1:]},
		{"ids that are too many together", "f5r1-a s0r1-bcdefghijkln s0r1-pqrstuvw", impl.PickFixed, 1, "a"},
		{"too many of two that are fixed", "f5r1-nopqrst f5r2" + many + " .", impl.PickFixed, 1, "nopqrst"},
		{"two that are the same", "f5r4-bd . f5r4-bd", impl.PickFixed, 4, "bd"},
		{"two that differ in their ballots alone", "f5r4-bd . f8r4-bd", impl.PickFixed, 4, "bd"},
		{"too few", "f5r1-a . .", impl.PickFew, 0, ""},
		{"too few of four", "f5r1-a f5r1-a . .", impl.PickFew, 0, ""},
		{"too few of five", ". . . f5r1-a f5r1-a", impl.PickFew, 0, ""},
	})
}

func TestRecoverTakenTable(t *testing.T) {
	many := "-abcdefghijkl"
	checkPickTests(t, []pickTest{
		{"one of one replica", "t5r3-ab", impl.PickTaken, 3, "ab"},
		{"one and one that is proposed", "t0r3-ab s9r4 .", impl.PickTaken, 3, "ab"},
		{"one behind one that is proposed", "s9r4 t0r3-ab .", impl.PickTaken, 3, "ab"},
		{"one at the end", ". s9r4 t0r3-ab", impl.PickTaken, 3, "ab"},
		{"one and those that know nothing", "- - t0r3 . .", impl.PickTaken, 3, ""},
		{"one, and proposed ones that are all the same", "s9r9-x s9r9-x s9r9-x s9r9-x t0r3-ab", impl.PickTaken, 3, "ab"},
		{"the greatest ballot at the beginning", "t7r1-a t5r2-b t6r3-c", impl.PickTaken, 1, "a"},
		{"the greatest ballot in the middle", "t5r1-a t7r2-b t6r3-c", impl.PickTaken, 2, "b"},
		{"the greatest ballot at the end", "t5r1-a t6r2-b t7r3-c", impl.PickTaken, 3, "c"},
		{"ballots that descend", "t9r1-a t8r2-b t7r3-c t6r4-d t5r5-e", impl.PickTaken, 1, "a"},
		{"ballots that ascend", "t5r1-a t6r2-b t7r3-c t8r4-d t9r5-e", impl.PickTaken, 5, "e"},
		{"equal ballots", "t7r1-a t7r2-b t7r3-c t7r4-d t7r5-e", impl.PickTaken, 1, "a"},
		{"equal ballots, descending ranks", "t7r5-e t7r4-d t7r3-c t7r2-b t7r1-a", impl.PickTaken, 5, "e"},
		{"equal ballots, other ranks alone", "t7r2-b t7r3-b t7r1-b", impl.PickTaken, 2, "b"},
		{"equal ballots, other ids alone", "t7r2-b t7r2-abc t7r2", impl.PickTaken, 2, "b"},
		{"equal ballots behind a lesser one", "t6r1-a t7r2-b t7r3-c t7r4-d t7r5-e", impl.PickTaken, 2, "b"},
		{"equal ballots around a lesser one", "t7r1-a t6r2-b t7r3-c t6r4-d t7r5-e", impl.PickTaken, 1, "a"},
		{"equal ballots at the end", "t5r1-a t6r2-b t5r3-c t7r4-d t7r5-e", impl.PickTaken, 4, "d"},
		{"most are the same, but not those with the greatest ballot", "t5r4-x t5r4-x t5r4-x t5r4-x t6r1-a", impl.PickTaken, 1, "a"},
		{"equal ballots of 0", "s9r1-a t0r2-b t0r3-c", impl.PickTaken, 2, "b"},
		{"the greatest ballots there are", "t998r1-a t999r2-b t0r3-c t999r4-d .", impl.PickTaken, 2, "b"},
		{"a proposed one with a greater ballot", "s999r9-x t0r2-b s998r9-x", impl.PickTaken, 2, "b"},
		{"ids that are too many together", "t5r1-a s0r1-bcdefghijkln s0r1-pqrstuvw", impl.PickTaken, 1, "a"},
		{"too many of two that are taken", "t5r1-nopqrst t5r2" + many + " .", impl.PickTaken, 1, "nopqrst"},
		{"ids of all others do not count", "t9r1-a t8r9" + many + " s0r99-z", impl.PickTaken, 1, "a"},
		{"a fixed one with a lesser ballot", "t9r1-a f0r2-b .", impl.PickFixed, 2, "b"},
		{"too few", ". t5r1-a .", impl.PickFew, 0, ""},
		{"too few of four", "t5r1-a . t5r1-a .", impl.PickFew, 0, ""},
	})
}

func TestRecoverFastTable(t *testing.T) {
	many := "-abcdefghijkl"
	checkPickTests(t, []pickTest{
		{"one of one replica", "s5r3-ab", impl.PickFast, 3, "ab"},
		{"one of one replica, without ids", "s999r99", impl.PickFast, 99, ""},
		{"both of two replicas", "s0r3-ab s0r3-ab", impl.PickFast, 3, "ab"},
		{"two of three replicas", "s0r3-ab . s0r3-ab", impl.PickFast, 3, "ab"},
		{"all of three replicas", "s0r3-ab s0r3-ab s0r3-ab", impl.PickFast, 3, "ab"},
		{"three of four replicas", "s0r3-ab s0r3-ab s0r3-ab .", impl.PickFast, 3, "ab"},
		{"all of four replicas", "s0r3-ab s0r3-ab s0r3-ab s0r3-ab", impl.PickFast, 3, "ab"},
		{"three of five replicas", ". s0r3-ab s0r3-ab . s0r3-ab", impl.PickFast, 3, "ab"},
		{"all of five replicas", "s0r3 s0r3 s0r3 s0r3 s0r3", impl.PickFast, 3, ""},
		{"other ballots alone", "s1r3-ab s999r3-ab s0r3-ab", impl.PickFast, 3, "ab"},
		{"two of three answers of four replicas", "s0r3-ab s0r4-ab s0r3-ab .", impl.PickFast, 3, "ab"},
		{"two of three answers of four replicas, at the end", ". s0r4-ab s0r3-ab s0r3-ab", impl.PickFast, 3, "ab"},
		{"three of four answers of four replicas", "s0r3-ab s0r3-ab s0r4-ab s0r3-ab", impl.PickFast, 3, "ab"},
		{"two of three answers of five replicas", "s0r4-ab s0r3-ab . s0r3-ab .", impl.PickFast, 3, "ab"},
		{"three of four answers of five replicas", "s0r3-ab s0r3-ab . s0r3-ab s0r4-ab", impl.PickFast, 3, "ab"},
		{"four of five answers of five replicas", "s0r3-ab s0r3-ab s0r9-z s0r3-ab s0r3-ab", impl.PickFast, 3, "ab"},
		{"the first group is too small", "s0r9-z s0r3-ab s0r3-ab s0r3-ab .", impl.PickFast, 3, "ab"},
		{"the first group is too small, and has a greater ballot", "s999r9-z s0r3-ab s0r3-ab s0r3-ab .", impl.PickFast, 3, "ab"},
		{"the first group of five is too small", "s0r9-z s0r3-ab s0r3-ab s0r3-ab s0r3-ab", impl.PickFast, 3, "ab"},
		{"the second group is too small", "s0r3-ab s0r3-ab s0r3-ab . s0r9-z", impl.PickFast, 3, "ab"},
		{"the others have a lesser rank", "s0r1-ab s0r3-ab s0r3-ab s0r3-ab", impl.PickFast, 3, "ab"},
		{"the others have a greater rank", "s0r99-ab s0r3-ab s0r3-ab s0r3-ab", impl.PickFast, 3, "ab"},
		{"the others have other ids", "s0r3-abc s0r3-ab s0r3-ab s0r3-ab", impl.PickFast, 3, "ab"},
		{"the others have no ids", "s0r3 s0r3-ab s0r3-ab s0r3-ab", impl.PickFast, 3, "ab"},
		{"the group has no ids", "s0r3-a s0r3 s0r3 s0r3", impl.PickFast, 3, ""},
		{"one of the others knows nothing", "- s0r3-ab s0r3-ab s0r3-ab", impl.PickFast, 3, "ab"},
		{"exactly enough, and one that knows nothing", "s0r3-ab s0r3-ab s0r3-ab s0r3-ab -", impl.PickFast, 3, "ab"},
		{"exactly enough of four answers, and one that knows nothing", ". s0r3-ab - s0r3-ab s0r3-ab", impl.PickFast, 3, "ab"},
		{"exactly enough of three answers, and one that knows nothing", ". s0r3-ab - s0r3-ab .", impl.PickFast, 3, "ab"},
		{"ids that are too many together", "s0r3" + many + " s0r3" + many + " s0r9-z s0r3" + many + " s0r3" + many, impl.PickFast, 3, many[1:]},
		{"ids that are too many by far", "s0r9-nopqrstuvwxy s0r3" + many + " s0r3" + many + " s0r3" + many, impl.PickFast, 3, many[1:]},
		{"too few", ". s0r3-ab .", impl.PickFew, 0, ""},
		{"too few, and at least MeetSize", "s0r3-ab s0r3-ab . . .", impl.PickFew, 0, ""},
		{"too few, and MeetSize of 0", "s0r3-ab . . . .", impl.PickFew, 0, ""},
		{"too few of four, and MeetSize of 1", "s0r3-ab s0r3-ab . .", impl.PickFew, 0, ""},
		{"too few of two, and MeetSize of 1", "s0r3-ab .", impl.PickFew, 0, ""},
	})
}

func TestRecoverSeenTable(t *testing.T) {
	checkPickTests(t, []pickTest{
		{"the same rank, other ids", "s0r3-a s0r3-b .", impl.PickSeen, 3, "ab"},
		{"the same ids, another rank", "s0r3-a s0r4-a .", impl.PickSeen, 4, "a"},
		{"the same ids, a lesser rank", "s0r4-a s0r3-a .", impl.PickSeen, 4, "a"},
		{"one alone, and one that knows nothing", "s7r3-ab - .", impl.PickSeen, 3, "ab"},
		{"one alone at the end", "- . s7r3-ab", impl.PickSeen, 3, "ab"},
		{"one alone of five", "- - s7r99 - -", impl.PickSeen, 99, ""},
		{"one alone of two", "s7r3-ab -", impl.PickSeen, 3, "ab"},
		{"two of three answers of three replicas", "s0r3-ab s0r3-ab -", impl.PickSeen, 3, "ab"},
		{"two the same and one that differs", "s0r3-ab s0r3-ab s0r3", impl.PickSeen, 3, "ab"},
		{"one too few of four answers of five replicas", "s0r3-ab s0r3-ab - - .", impl.PickSeen, 3, "ab"},
		{"one too few of five answers of five replicas", "s0r3-ab s0r3-ab s0r3-ab - -", impl.PickSeen, 3, "ab"},
		{"one too few of five answers, and others", "s0r3-ab s0r3-ab s0r2-ab s0r3-ab -", impl.PickSeen, 3, "ab"},
		{"one too few of three answers of five replicas", "s0r3-ab - - . .", impl.PickSeen, 3, "ab"},
		{"one too few of three answers of four replicas", ". s0r3-ab - -", impl.PickSeen, 3, "ab"},
		{"one too few of four answers of four replicas", "s0r3-ab s0r3-ab - -", impl.PickSeen, 3, "ab"},
		{"two groups, both too small", "s0r3-ab s0r4-c s0r3-ab s0r4-c", impl.PickSeen, 4, "abc"},
		{"two groups, both too small, of five", "s0r3-ab s0r4-c s0r3-ab s0r4-c s0r3-ab", impl.PickSeen, 4, "abc"},
		{"the greatest rank at the beginning", "s0r9 s0r1 s0r2 s0r3 s0r4", impl.PickSeen, 9, ""},
		{"the greatest rank between", "s0r1 s0r2 s0r9 s0r3 s0r4", impl.PickSeen, 9, ""},
		{"the greatest rank at the end", "s0r1 s0r2 s0r3 s0r4 s0r9", impl.PickSeen, 9, ""},
		{"the greatest rank there is", "s0r1 s0r99 s0r98", impl.PickSeen, 99, ""},
		{"the rank of one, and the ids of another one", "s0r9 s0r1-ax .", impl.PickSeen, 9, "ax"},
		{"a greater ballot does not count", "s999r1-a s0r9-b .", impl.PickSeen, 9, "ab"},
		{"ids that one has", "s0r1 s0r1-ax s0r1", impl.PickSeen, 1, "ax"},
		{"ids that some have", "s0r1-bd s0r1-bx s0r1-d", impl.PickSeen, 1, "bdx"},
		{"ids that all have", "s0r1-bd s0r2-bd s0r3-bd", impl.PickSeen, 3, "bd"},
		{"ids ahead, between and behind", "s0r1-eg s0r1-a s0r1-f s0r1-z s0r1", impl.PickSeen, 1, "aefgz"},
		{"ids that are exactly IdsMax", "s0r1-abcdef s0r1-ghijkl .", impl.PickSeen, 1, "abcdefghijkl"},
		{"exactly IdsMax, partly the same", "s0r1-abcdefgh s0r1-efghijkl s0r1-bdfhjl", impl.PickSeen, 1, "abcdefghijkl"},
		{"exactly IdsMax of one", "s0r1-abcdefghijkl s0r1-a -", impl.PickSeen, 1, "abcdefghijkl"},
		{"exactly IdsMax of five", "s0r1-abc s0r1-de s0r1-fg s0r1-hi s0r1-jkl", impl.PickSeen, 1, "abcdefghijkl"},
		{"one more than IdsMax", "s0r1-abcdef s0r1-ghijkln .", impl.PickBad, 0, ""},
		{"one more than IdsMax, ahead", "s0r1-bcdefghijkln s0r1-a .", impl.PickBad, 0, ""},
		{"one more than IdsMax, behind", "s0r1-abcdefghijkl s0r1-z .", impl.PickBad, 0, ""},
		{"one more than IdsMax of five", "s0r1-abc s0r1-de s0r1-fg s0r1-hi s0r1-jkln", impl.PickBad, 0, ""},
		{"one more than IdsMax, and those that know nothing", "- s0r1-abcdef - s0r1-ghijkln -", impl.PickBad, 0, ""},
		{"far more than IdsMax", "s0r1-abcdefghijkl s0r1-nopqrstuvwxy .", impl.PickBad, 0, ""},
		{"one more than IdsMax, but too few", "s0r1-abcdef s0r1-ghijkln . . .", impl.PickFew, 0, ""},
		{"one more than IdsMax, but too few of four", "s0r1-abcdef . s0r1-ghijkln .", impl.PickFew, 0, ""},
		{"one more than IdsMax, but one is taken", "s0r1-abcdef s0r1-ghijkln t0r1-b", impl.PickTaken, 1, "b"},
		{"one more than IdsMax, but one is fixed", "f0r1-b s0r1-abcdef s0r1-ghijkln", impl.PickFixed, 1, "b"},
		{"one more than IdsMax, but enough are the same", "s0r1-abcdef s0r1-ghijkln s0r1-abcdef .", impl.PickFast, 1, "abcdef"},
	})
}

// kindLists calls a function with the answers of each number of replicas, each of one of some kinds.
func kindLists(kinds []string, call func(n int, list []impl.Answer)) {
	for n := 1; n <= 5; n++ {
		lists := 1
		for range n {
			lists *= len(kinds)
		}
		for which := range lists {
			list := []impl.Answer{}
			for from := range n {
				if word := kinds[which%len(kinds)]; word != "." {
					list = append(list, told(from, word))
				}
				which /= len(kinds)
			}
			call(n, list)
		}
	}
}

// Promises 84 to 90: all lists of a few kinds of answers, with lesser, equal and greater ballots, and other ranks and ids.
func TestRecoverEachList(t *testing.T) {
	seen := map[int]int{}
	kindLists([]string{".", "-", "s0r1", "s5r1", "s0r2-a", "t0r3-b", "t5r4", "f0r5-c", "f5r6"}, func(n int, list []impl.Answer) {
		checkPick(t, n, letter('m'), list)
		_, why := impl.RecoverPick(n, letter('m'), list)
		seen[why]++
	})
	for why := impl.PickFew; why <= impl.PickNone; why++ {
		if seen[why] < 5 {
			t.Errorf("why entries are picked is only %v", seen)
		}
	}
}

// All lists of proposed entries of a few kinds, which may have too many ids together.
func TestRecoverEachProposed(t *testing.T) {
	seen := map[int]int{}
	kindLists([]string{".", "-", "s0r1-abcdef", "s9r1-abcdef", "s0r1-ghijkl", "s0r2-a", "s0r1-n"}, func(n int, list []impl.Answer) {
		checkPick(t, n, letter('m'), list)
		_, why := impl.RecoverPick(n, letter('m'), list)
		seen[why]++
	})
	for _, why := range []int{impl.PickFew, impl.PickFast, impl.PickSeen, impl.PickNone, impl.PickBad} {
		if seen[why] < 5 {
			t.Errorf("why entries are picked is only %v", seen)
		}
	}
}

// One that is fixed among others that are not, at each place, and one that is taken.
func TestRecoverOneAmongOthers(t *testing.T) {
	for n := 1; n <= 5; n++ {
		for _, set := range setsOf(n) {
			for place := range set {
				for i, word := range []string{"f0r3-ab", "t0r3-ab"} {
					for _, other := range []string{"-", "s0r3-ab", "s999r99-abcdefghijkl", "s0r1", "t999r9-x", "t0r1"}[:6-2*i] {
						list := []impl.Answer{}
						for _, from := range set {
							list = append(list, told(from, other))
						}
						list[place] = told(set[place], word)
						e, why := impl.RecoverPick(n, letter('m'), list)
						if enough := 2*len(set) > n; enough && (why != 1+i || e.Seq != 3 || asLetters(e.Deps) != "ab") || !enough && (why != impl.PickFew || !zeroEntry(e)) {
							t.Fatalf("RecoverPick(%d, %v) is %v, %d", n, list, e, why)
						}
						checkPick(t, n, letter('m'), list)
					}
				}
			}
		}
	}
}

// Each ballot of an entry against those around it, in both orders.
func TestRecoverBallots(t *testing.T) {
	for i, status := range []string{"f", "t"} {
		for ballot := range 1000 {
			for _, other := range []int{0, ballot - 1, ballot, ballot + 1, 999 - ballot, 999} {
				if other < 0 || other > 999 {
					continue
				}
				list := []impl.Answer{told(0, status+strconv.Itoa(ballot)+"r3-ab"), told(2, status+strconv.Itoa(other)+"r4-c")}
				want := 3
				if other > ballot {
					want = 4
				}
				e, why := impl.RecoverPick(3, letter('m'), list)
				if why != 1+i || e.Seq != want || e.Ballot != 0 || len(e.Deps) != 5-want {
					t.Fatalf("RecoverPick(3, %v) is %v, %d", list, e, why)
				}
			}
		}
	}
	// Ballots of what is proposed do not matter, neither if it is the same, nor if it is not.
	for ballot := range 1000 {
		list := []impl.Answer{told(0, "s"+strconv.Itoa(ballot)+"r3-ab"), told(1, "s"+strconv.Itoa(999-ballot)+"r3-ab")}
		if e, why := impl.RecoverPick(3, letter('m'), list); why != impl.PickFast || e.Seq != 3 || e.Ballot != 0 {
			t.Fatalf("RecoverPick(3, %v) is %v, %d", list, e, why)
		}
		list[1].Entry.Seq = 2
		if e, why := impl.RecoverPick(3, letter('m'), list); why != impl.PickSeen || e.Seq != 3 || e.Ballot != 0 {
			t.Fatalf("RecoverPick(3, %v) is %v, %d", list, e, why)
		}
	}
}

// The greatest ballots of five answers, in each order: the first one of those with the greatest ballot is picked.
func TestRecoverBallotOrders(t *testing.T) {
	for _, status := range []int{impl.StatusTaken, impl.StatusFixed} {
		for which := range 4 * 4 * 4 * 4 * 4 {
			list, first := []impl.Answer{}, 0
			for from := range 5 {
				x := told(from, "t0r1")
				x.Entry.Status, x.Entry.Ballot, x.Entry.Seq = status, 333*(which%4), 10+from
				list, which = append(list, x), which/4
				if x.Entry.Ballot > list[first].Entry.Ballot {
					first = from
				}
			}
			if e, why := impl.RecoverPick(5, letter('m'), list); why != 4-status || e.Seq != 10+first {
				t.Fatalf("RecoverPick(5, %v) is %v, %d", list, e, why)
			}
			checkPick(t, 5, letter('m'), list)
		}
	}
}

// Each number of entries that are the same, with others that differ or that know nothing, at each place.
func TestRecoverMeet(t *testing.T) {
	for n, row := range map[int][]int{1: {0, 1}, 2: {0, 1, 2}, 3: {0, 1, 2, 3}, 4: {0, 0, 1, 2, 3}, 5: {0, 0, 1, 2, 3, 4}} {
		for _, set := range setsOf(n) {
			for which := range 1 << len(set) {
				for _, other := range []string{"-", "s0r4-ab", "s0r3-a", "s0r3"} {
					list, same := []impl.Answer{}, 0
					for i, from := range set {
						if which>>i&1 == 1 {
							list, same = append(list, told(from, "s7r3-ab")), same+1
						} else {
							list = append(list, told(from, other))
						}
					}
					// The others are all the same, too, and there may be enough of them.
					fast := same >= row[len(set)] || other != "-" && len(set)-same >= row[len(set)]
					_, why := impl.RecoverPick(n, letter('m'), list)
					if 2*len(set) > n && (why == impl.PickFast) != (fast && (same > 0 || other != "-")) || 2*len(set) <= n && why != impl.PickFew {
						t.Fatalf("RecoverPick(%d, %v) is %d", n, list, why)
					}
					checkPick(t, n, letter('m'), list)
				}
			}
		}
	}
}

// One entry that differs from all others that are proposed in one part alone, at each place.
func TestRecoverOneDiffers(t *testing.T) {
	for _, own := range ownEntries() {
		for n := 1; n <= 5; n++ {
			for _, set := range setsOf(n) {
				for place, from := range set {
					for i, x := range slices.Concat(otherBallots(own), otherRanks(own), otherDeps(own)) {
						list := withAnswer(answersFrom(own, set...), place, impl.Answer{From: from, Knows: true, Entry: x})
						if e, why := impl.RecoverPick(n, own.Id, list); i < len(otherBallots(own)) && 2*len(set) > n && (why != impl.PickFast || e.Seq != own.Seq || !slices.Equal(e.Deps, own.Deps)) {
							t.Fatalf("RecoverPick(%d, %v, %v) is %v, %d", n, own.Id, list, e, why)
						}
						checkPick(t, n, own.Id, list)
					}
				}
			}
		}
	}
}

// Each two ranks of what is proposed.
func TestRecoverRanks(t *testing.T) {
	list := []impl.Answer{told(0, "s4r1-ab"), told(1, "s9r1-ab")}
	first, second := &list[0].Entry, &list[1].Entry
	for first.Seq = 1; first.Seq <= 99; first.Seq++ {
		for second.Seq = 1; second.Seq <= 99; second.Seq++ {
			want := impl.PickSeen
			if first.Seq == second.Seq {
				want = impl.PickFast
			}
			if e, why := impl.RecoverPick(3, letter('m'), list); why != want || e.Seq != max(first.Seq, second.Seq) || asLetters(e.Deps) != "ab" {
				t.Fatalf("RecoverPick(3, %v) is %v, %d", list, e, why)
			}
		}
	}
}

// Each valid id to depend on, of one answer alone.
func TestRecoverEachDep(t *testing.T) {
	for _, a := range validIds() {
		list := []impl.Answer{told(0, "s4r1-ceg"), told(1, "s9r1-ceg"), told(2, "s0r1")}
		if a == letter('m') || slices.Contains(list[0].Entry.Deps, a) {
			continue
		}
		for i := range list {
			x := deepAnswers(list)
			x[i].Entry.Deps = inOrder(append(x[i].Entry.Deps, a))
			want := inOrder(append(lettersOf("ceg"), a))
			if e, why := impl.RecoverPick(3, letter('m'), x); why != impl.PickSeen || !slices.Equal(e.Deps, want) {
				t.Fatalf("RecoverPick(3, %v) is %v, %d", x, e, why)
			}
			checkPick(t, 3, letter('m'), x)
		}
	}
}

// Up to IdsMax ids are together fine where they would be joined, and more are not; elsewhere they may be more.
func TestRecoverIdsLimit(t *testing.T) {
	random := rand.New(rand.NewSource(84))
	for range 200 {
		ids := someIds(random, 20)
		for together := 10; together <= 15; together++ {
			e := impl.Entry{Id: ids[0], Ballot: 3, Status: 1, What: add(1, 1), Seq: 5}
			list := answersFrom(e, 0, 1, 2, 3, 4)
			for i, a := range ids[1 : 1+together] {
				// Each id is at a place of its own, and at one more that may be the same.
				for _, place := range []int{i % 5, random.Intn(5)} {
					list[place].Entry.Deps = append(list[place].Entry.Deps, a)
				}
			}
			for i := range list {
				list[i].Entry.Deps = inOrder(list[i].Entry.Deps)
				list[i].Entry.Seq = i + 1
			}
			want := impl.PickSeen
			if together > 12 {
				want = impl.PickBad
			}
			if got, why := impl.RecoverPick(5, e.Id, list); why != want || want == impl.PickSeen && len(got.Deps) != together {
				t.Fatalf("RecoverPick(5, %v, %v) is %v, %d", e.Id, list, got, why)
			}
			checkPick(t, 5, e.Id, list)
			for status := impl.StatusTaken; status <= impl.StatusFixed; status++ {
				place := random.Intn(5)
				list[place].Entry.Status = status
				if got, why := impl.RecoverPick(5, e.Id, list); why != 4-status || got.Seq != place+1 || !slices.Equal(got.Deps, list[place].Entry.Deps) {
					t.Fatalf("RecoverPick(5, %v, %v) is %v, %d", e.Id, list, got, why)
				}
				checkPick(t, 5, e.Id, list)
				list[place].Entry.Status = impl.StatusSeen
			}
		}
	}
}

// someTold returns valid answers of some replicas for an id, with few or many entries that are the same.
func someTold(random *rand.Rand, n int, a impl.Id) []impl.Answer {
	list, base := []impl.Answer{}, someEntry(random, a, 99)
	base.Deps = base.Deps[:random.Intn(len(base.Deps)+1)]
	statuses, silent := 1+random.Intn(3), random.Intn(4)
	for from := range n {
		if random.Intn(5) < silent {
			continue
		}
		x := impl.Answer{From: from}
		if random.Intn(4) > 0 {
			x.Knows, x.Entry = true, deepEntry(base)
			x.Entry.Status, x.Entry.Ballot = 1+random.Intn(statuses), random.Intn(3)
			if random.Intn(4) == 0 {
				x.Entry.Seq = 1 + random.Intn(99)
			}
			if random.Intn(4) == 0 {
				x.Entry.Deps = someEntry(random, a, 99).Deps
			}
		}
		list = append(list, x)
	}
	return list
}

// Promises 84 to 90: any answers, fitting or not.
func TestRecoverAny(t *testing.T) {
	random := rand.New(rand.NewSource(90))
	for range 20000 {
		n, a := 1+random.Intn(5), someIds(random, 1)[0]
		list := someTold(random, n, a)
		wantGood(t, n, a, list)
		if len(list) == 0 {
			continue
		}
		// One part of one of them is changed, so that it may not fit any more.
		switch with := &list[random.Intn(len(list))]; random.Intn(8) {
		case 0:
			with.From = random.Intn(8) - 1
		case 1:
			with.Knows = !with.Knows
		case 2:
			with.Entry.Status = random.Intn(5)
		case 3:
			with.Entry.What = manyCommands(random, 1)[0]
		case 4:
			with.Entry.Id = someIds(random, 1)[0]
		case 5:
			with.Entry.Seq = random.Intn(102) - 1
		case 6:
			with.Entry.Ballot = random.Intn(1002) - 1
		case 7:
			with.Entry.Deps = someIds(random, random.Intn(3))
		}
		checkPick(t, n, a, list)
		checkPick(t, random.Intn(8)-1, a, list)
	}
}

// recall returns what some replicas know of an id, by their logs.
func recall(logs [][]impl.Entry, a impl.Id, replicas []int) []impl.Answer {
	list := []impl.Answer{}
	for _, from := range replicas {
		e, knows := impl.LogFind(logs[from], a)
		list = append(list, impl.Answer{From: from, Knows: knows, Entry: e})
	}
	return list
}

// checkRecalled checks that each majority picks what was agreed upon, with each reason that fits what its replicas know.
func checkRecalled(t *testing.T, logs [][]impl.Entry, agreed impl.Entry, why int) {
	t.Helper()
	n := len(logs)
	for _, set := range setsOf(n) {
		list := recall(logs, agreed.Id, set)
		checkPick(t, n, agreed.Id, list)
		if 2*len(set) <= n {
			continue
		}
		want := why
		if slices.ContainsFunc(knownBy(list), func(e impl.Entry) bool { return e.Status == impl.StatusFixed }) {
			want = impl.PickFixed
		}
		e, got := impl.RecoverPick(n, agreed.Id, list)
		if got != want || e.What != agreed.What || e.Seq != agreed.Seq || !slices.Equal(e.Deps, agreed.Deps) {
			t.Fatalf("%v was agreed upon, and RecoverPick(%d, %v) is %v, %d", agreed, n, list, e, got)
		}
	}
}

// What is fixed on the fast path, and what a majority has taken, is picked by each majority, whichever replicas know of it, and also where some have it fixed.
func TestRecoverWhatIsAgreed(t *testing.T) {
	random := rand.New(rand.NewSource(85))
	seen := map[int]int{}
	for range 300 {
		n := 1 + random.Intn(5)
		logs := make([][]impl.Entry, n)
		for range 8 {
			leader := random.Intn(n)
			after, own, ok := impl.Propose(logs[leader], leader, manyCommands(random, 1)[0])
			if !ok {
				continue
			}
			logs[leader] = after
			told, answers := []int{leader}, []impl.Entry{}
			for other := range n {
				if other == leader || random.Intn(5) == 0 {
					continue
				}
				if after, answer, fine := impl.PreAccept(logs[other], own); fine {
					logs[other], answers, told = after, append(answers, answer), append(told, other)
				}
			}
			path := impl.PathOf(n, own, answers)
			agreed, joined := impl.AnswersJoin(own, answers)
			if path < impl.PathFast || !joined {
				continue
			}
			seen[path]++
			why := impl.PickFast
			if path == impl.PathSlow {
				why, agreed.Status = impl.PickTaken, impl.StatusTaken
				for _, replica := range told {
					logs[replica], _ = impl.TakeEntry(logs[replica], agreed)
				}
			}
			checkRecalled(t, logs, agreed, why)
			agreed.Status = impl.StatusFixed
			replica := random.Intn(n)
			if after, fixed := impl.FixEntry(logs[replica], agreed); fixed {
				logs[replica] = after
				checkRecalled(t, logs, agreed, why)
			}
		}
	}
	if seen[impl.PathFast] < 100 || seen[impl.PathSlow] < 100 {
		t.Errorf("the paths are only %v", seen)
	}
}

// roomyAnswers returns answers in a longer memory, each of which depends on ids in a longer memory, and all of that memory.
func roomyAnswers(list []impl.Answer) ([]impl.Answer, []impl.Answer, [][]impl.Id) {
	whole := append(make([]impl.Answer, 0, len(list)+20), list...)
	var rows [][]impl.Id
	for i, x := range list {
		given, row := roomy(x.Entry.Deps)
		whole[i].Entry.Deps = given
		rows = append(rows, row)
	}
	whole = append(whole, told(4, "f9r9-z"), impl.Answer{From: -1, Entry: impl.Entry{Status: -1}})
	return whole[:len(list)], whole, rows
}

// spoilAnswers changes all answers of a slice, what their entries depend on, and what is behind its end.
func spoilAnswers(list []impl.Answer) {
	for i := range list {
		spoilLog([]impl.Entry{list[i].Entry})
		list[i] = impl.Answer{From: -77, Entry: impl.Entry{Seq: -77, Deps: []impl.Id{id(-77, -77)}}}
	}
	for i, far := len(list), append(list, impl.Answer{}, impl.Answer{}); i < len(far); i++ {
		far[i].From = -78
	}
	for i, all := len(list), list[:cap(list)]; i < len(all); i++ {
		all[i] = impl.Answer{From: -79}
	}
}

// checkAnswersMemory checks that neither function changes its arguments, or gives out their memory or that of another result.
func checkAnswersMemory(t *testing.T, n int, a impl.Id, list []impl.Answer) {
	t.Helper()
	given, whole, rows := roomyAnswers(list)
	before, rowsBefore, roomsBefore := deepAnswers(whole), deepRows(rows), roomsOf(reflect.ValueOf(whole))
	unchanged := func() bool {
		// What entries depend on must not even have been moved, or lost capacity.
		return sameAnswers(whole, before) && sameRows(rows, rowsBefore) && slices.Equal(roomsOf(reflect.ValueOf(whole)), roomsBefore)
	}
	impl.AnswersValid(n, a, given)
	first, why := impl.RecoverPick(n, a, given)
	second, again := impl.RecoverPick(n, a, given)
	third, _ := impl.RecoverPick(1, first.Id, answersFrom(first, 0))
	want := deepEntry(second)
	if why != again || !unchanged() || sharing(whole, first, second, third) || !sameEntry(first, second) {
		t.Fatalf("RecoverPick(%d, %v, %v) is %v, %d, and shares or changes what it is given", n, a, list, first, why)
	}
	spoilLog([]impl.Entry{first, third})
	if !unchanged() || !sameEntry(second, want) {
		t.Fatalf("behind RecoverPick(%d, %v, %v), its result changes an argument or another result", n, a, list)
	}
	for _, row := range rows {
		spoilIds(row)
	}
	spoilAnswers(given)
	if !sameEntry(second, want) {
		t.Fatalf("behind RecoverPick(%d, %v, %v), its argument changes a result", n, a, list)
	}
}

// For each reason, also where answers are too few or invalid.
func TestRecoverMemory(t *testing.T) {
	for _, text := range []string{
		"f5r3-ab", "t5r3-ab", "s5r3-ab", "-", ".", "f5r3", "s5r3", "f5r1-a f7r2-bc f6r3-d", "f7r1-abc f7r2-b f7r3-c", "t5r1-a t7r2-bc t6r3-d", "t9r1-a f0r2-bc s5r4-xyz",
		"s0r3-ab s0r3-ab s0r3-ab", "s0r9-z s0r3-ab s0r3-ab s0r3-ab .", "s0r3-a s0r3-b .", "s0r1 s0r1-ax s0r1", "s0r1-abcdef s0r1-ghijkl .", "s0r1-abcdefghijkl s0r2-abcdefghijkl -",
		"s0r1-abcdef s0r1-ghijkln .", "- - -", "f5r1-ab . .", "s0r1-ab . . . .", "f0r0-ab f0r1-ab", "t0r1-ba t0r1-ab s0r1-a", "s0r1-m s0r1-ab", "t1000r1-ab",
	} {
		list, n := toldBy(text)
		for more := range 3 {
			checkAnswersMemory(t, n+more, letter('m'), list)
			checkAnswersMemory(t, more, letter('m'), list)
			checkAnswersMemory(t, n, letter('c'), list)
		}
	}
	for _, e := range append(unknownEntries(), told(0, "s7r3-ab").Entry) {
		checkAnswersMemory(t, 3, letter('m'), []impl.Answer{{From: 0, Entry: e}, told(1, "s0r1-a")})
	}
	random := rand.New(rand.NewSource(86))
	for range 2000 {
		n, a := 1+random.Intn(5), someIds(random, 1)[0]
		checkAnswersMemory(t, n, a, someTold(random, n, a))
	}
}

// Answers may depend on the same memory, or on parts of it that overlap.
func TestRecoverOneMemory(t *testing.T) {
	for status := 1; status <= 3; status++ {
		for _, ranks := range [][]int{{3, 3, 3, 3, 3}, {1, 2, 3, 4, 5}} {
			deps, whole := roomy(lettersOf("abcd"))
			list := answersFrom(told(0, "s4r3").Entry, 0, 1, 2, 3, 4)
			for i, part := range [][]impl.Id{deps, deps[1:3], deps, deps[:0], deps[2:]} {
				list[i].Entry.Deps, list[i].Entry.Status, list[i].Entry.Seq, list[i].Entry.Ballot = part, status, ranks[i], 7*(i%2)
			}
			list[3].Knows, list[3].Entry = false, impl.Entry{Deps: deps[4:]}
			before, idsBefore := deepAnswers(list), slices.Clone(whole)
			for _, set := range setsOf(5) {
				var some []impl.Answer
				for _, from := range set {
					some = append(some, list[from])
				}
				want, why := wantPick(5, letter('m'), deepAnswers(some))
				first, got := impl.RecoverPick(5, letter('m'), some)
				second, _ := impl.RecoverPick(5, letter('m'), some)
				if got != why || !sameEntry(first, want) || sharing(whole, first, second) {
					t.Fatalf("RecoverPick(5, %v) is %v, %d, or shares what it is given", some, first, got)
				}
				spoilLog([]impl.Entry{first})
				if !sameAnswers(list, before) || !slices.Equal(whole, idsBefore) || !sameEntry(second, want) {
					t.Fatalf("behind RecoverPick(5, %v), its result changes an argument or another result", some)
				}
			}
			last, _ := impl.RecoverPick(5, letter('m'), list)
			want := deepEntry(last)
			spoilIds(deps)
			spoilAnswers(list)
			if !sameEntry(last, want) {
				t.Fatalf("behind RecoverPick, its arguments change %v to %v", want, last)
			}
		}
	}
}

// The same call gives the same result, however often it is made.
func TestRecoverAgain(t *testing.T) {
	random := rand.New(rand.NewSource(87))
	for range 200 {
		n, a := 1+random.Intn(5), someIds(random, 1)[0]
		list := someTold(random, n, a)
		want, why := impl.RecoverPick(n, a, list)
		for range 10 {
			if got, again := impl.RecoverPick(n, a, list); again != why || !sameEntry(got, want) || !impl.AnswersValid(n, a, list) {
				t.Fatalf("RecoverPick(%d, %v, %v) returns different results", n, a, list)
			}
		}
	}
}

// What is picked can be taken by a log that has nothing of it yet, and is picked again if all replicas then answer.
func TestRecoverTwice(t *testing.T) {
	random := rand.New(rand.NewSource(88))
	for range 2000 {
		n, a := 1+random.Intn(5), someIds(random, 1)[0]
		e, why := impl.RecoverPick(n, a, someTold(random, n, a))
		if why == impl.PickFew || why == impl.PickBad {
			continue
		}
		if after, ok := impl.TakeEntry(nil, e); !ok || !sameLog(after, []impl.Entry{e}) {
			t.Fatalf("TakeEntry of %v is %v, %v", e, after, ok)
		}
		for _, set := range setsOf(n) {
			if again, why := impl.RecoverPick(n, a, answersFrom(e, set...)); 2*len(set) > n && (why != impl.PickTaken || !sameEntry(again, e)) {
				t.Fatalf("RecoverPick of %d times %v is %v, %d", len(set), e, again, why)
			}
		}
	}
}

func FuzzRecovery(f *testing.F) {
	f.Add([]byte{}, byte(0), false, 0, 0, 1)
	f.Add([]byte{14, 6, 6, 9, 2, 15, 6, 7, 200, 1, 30, 99, 5, 3, 0}, byte(3), true, 3, 1, 9)
	f.Add([]byte{14, 1, 0, 4, 0, 14, 1, 0, 4, 0}, byte(2), true, 2, 5, 1)
	f.Add([]byte{28, 9, 6, 9, 2, 42, 9, 6, 9, 2, 14, 9, 6, 9, 2}, byte(0), true, 5, 0, 51)
	f.Add([]byte{27, 98, 6, 4, 240, 27, 96, 6, 4, 255, 27, 99, 11, 4, 0, 27, 1, 1, 1, 15}, byte(8), false, 4, 2, 2)
	f.Add([]byte{14, 1, 6, 4, 255, 14, 5, 6, 4, 255, 14, 3, 6, 4, 255}, byte(0), true, 3, 2, 2)
	f.Fuzz(func(t *testing.T, bytes []byte, silent byte, same bool, n, replica, number int) {
		list := []impl.Answer{}
		for from, e := range entriesOfBytes(bytes[:min(40, len(bytes))]) {
			x := impl.Answer{From: from, Knows: silent>>(from%8)&1 == 0, Entry: e}
			if same && len(list) > 0 && list[0].Knows {
				x.Entry.Id, x.Entry.What = list[0].Entry.Id, list[0].Entry.What
			}
			if same && !x.Knows {
				x.Entry = impl.Entry{}
			}
			list = append(list, x)
		}
		asked := append(idsOfLog(knownBy(list)), id(replica, number), letter('m'))
		for _, a := range asked {
			for many := range len(list) + 1 {
				for from := range many + 1 {
					checkPick(t, n, a, list[from:many])
				}
				for size := range 7 {
					checkPick(t, size, a, list[:many])
				}
			}
			checkAnswersMemory(t, 1+len(list)%5, a, list)
		}
	})
}
