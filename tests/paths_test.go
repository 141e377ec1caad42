package tests

import (
	"math"
	"math/rand"
	"slices"
	"strings"
	"testing"

	"loop.example/leaderlesslog/impl"
)

// wantSlow returns what SlowSize has to return: the least number that is more than half.
func wantSlow(n int) int {
	for many := range 6 {
		if n >= 1 && n <= 5 && 2*many > n {
			return many
		}
	}
	return -1
}

// wantFast returns what FastSize has to return: the least number that is at least three quarters.
func wantFast(n int) int {
	for many := range 6 {
		if n >= 1 && n <= 5 && 4*many >= 3*n {
			return many
		}
	}
	return -1
}

// wantMeet returns what MeetSize has to return: what is left of a fast set if all that do not answer are of it.
func wantMeet(n, answers int) int {
	if n < 1 || n > 5 || answers < 0 || answers > n {
		return -1
	}
	left := wantFast(n)
	for silent := answers; silent < n && left > 0; silent++ {
		left--
	}
	return left
}

// wantAnswers reports whether an entry and answers are valid, proposed, and about the same, whatever their number is.
func wantAnswers(own impl.Entry, answers []impl.Entry) bool {
	for _, e := range append([]impl.Entry{own}, answers...) {
		if !wantEntry(e) || e.Status != 1 || e.Id != own.Id || e.What != own.What {
			return false
		}
	}
	return true
}

// wantAnswersJoin returns what AnswersJoin has to return, by looking for each valid id everywhere.
func wantAnswersJoin(own impl.Entry, answers []impl.Entry) (impl.Entry, bool) {
	if len(answers) >= 5 || !wantAnswers(own, answers) {
		return impl.Entry{}, false
	}
	rank, given := own.Seq, map[impl.Id]bool{}
	for _, e := range append([]impl.Entry{own}, answers...) {
		rank = max(rank, e.Seq)
		for _, a := range e.Deps {
			given[a] = true
		}
	}
	all := slices.DeleteFunc(validIds(), func(a impl.Id) bool { return !given[a] })
	joined := impl.Entry{Id: own.Id, Ballot: own.Ballot, Status: own.Status, What: own.What, Seq: rank, Deps: all}
	if !wantEntry(joined) {
		return impl.Entry{}, false
	}
	return joined, true
}

// wantPath returns what PathOf has to return, by the words of the document.
func wantPath(n int, own impl.Entry, answers []impl.Entry) int {
	if n < 1 || n > 5 || len(answers) >= n || !wantAnswers(own, answers) {
		return -1
	}
	differs := slices.ContainsFunc(answers, func(e impl.Entry) bool { return e.Seq != own.Seq || !slices.Equal(e.Deps, own.Deps) })
	many := len(answers) + 1
	if many >= wantFast(n) && !differs {
		return 1
	}
	if many >= wantSlow(n) {
		return 2
	}
	return 0
}

// edgeSizes lists numbers that are no number of replicas: beside the limits, and far outside.
func edgeSizes() []int {
	return []int{math.MinInt, math.MinInt + 1, math.MinInt / 3, -1 << 32, -1<<32 + 3, -256, -100, -5, -4, -3, -2, -1, 0, 6, 7, 8, 9, 10, 50, 100, 255, 256, 257, 259, 1 << 32, 1<<32 + 1, 1<<32 + 3, math.MaxInt / 3, math.MaxInt / 2, math.MaxInt - 1, math.MaxInt}
}

// checkJoined holds AnswersJoin against the document, and against the words of the promises where it succeeds.
func checkJoined(t *testing.T, own impl.Entry, answers []impl.Entry) {
	t.Helper()
	ownBefore, before := deepEntry(own), deepLog(answers)
	want, wantOk := wantAnswersJoin(own, answers)
	got, ok := impl.AnswersJoin(own, answers)
	if ok != wantOk || !sameEntry(got, want) {
		t.Fatalf("AnswersJoin(%v, %v) is %v, %v, not %v, %v", own, answers, got, ok, want, wantOk)
	}
	if ok {
		checkJoinedWords(t, own, answers)
	}
	if !sameEntry(own, ownBefore) || !sameLog(answers, before) {
		t.Fatalf("AnswersJoin of %v and %v makes them %v and %v", ownBefore, before, own, answers)
	}
}

// checkJoinedWords holds AnswersJoin that succeeds against the promises 68 to 70.
func checkJoinedWords(t *testing.T, own impl.Entry, answers []impl.Entry) {
	t.Helper()
	joined, ok := impl.AnswersJoin(own, answers)
	if !ok || !impl.EntryValid(joined) || joined.Id != own.Id || joined.Ballot != own.Ballot || joined.Status != own.Status || joined.What != own.What {
		t.Fatalf("AnswersJoin(%v, %v) is %v, %v", own, answers, joined, ok)
	}
	greatest, from := false, []impl.Id{}
	for _, e := range append([]impl.Entry{own}, answers...) {
		if e.Seq > joined.Seq || !impl.DepsWithin(e.Deps, joined.Deps) {
			t.Fatalf("AnswersJoin(%v, %v) is %v, without what %v has", own, answers, joined, e)
		}
		greatest, from = greatest || e.Seq == joined.Seq, append(from, e.Deps...)
	}
	if !greatest || slices.ContainsFunc(joined.Deps, func(a impl.Id) bool { return !slices.Contains(from, a) }) {
		t.Fatalf("AnswersJoin(%v, %v) is %v, with what none has", own, answers, joined)
	}
	if alone, fine := impl.AnswersJoin(own, nil); !fine || !sameEntry(alone, own) {
		t.Fatalf("AnswersJoin(%v, none) is %v, %v", own, alone, fine)
	}
	if len(answers)+1 < impl.ReplicasMax {
		more := append(deepLog(answers), joined)
		if again, fine := impl.AnswersJoin(own, more); !fine || !sameEntry(again, joined) {
			t.Fatalf("AnswersJoin(%v, %v) is %v, %v, not %v again", own, more, again, fine, joined)
		}
	}
}

// checkPath holds PathOf against the document, and against the words of the promises 71 and 72.
func checkPath(t *testing.T, n int, own impl.Entry, answers []impl.Entry) {
	t.Helper()
	ownBefore, before := deepEntry(own), deepLog(answers)
	got := impl.PathOf(n, own, answers)
	if want := wantPath(n, own, answers); got != want {
		t.Fatalf("PathOf(%d, %v, %v) is %d, not %d", n, own, answers, got, want)
	}
	if got == impl.PathFast {
		for _, e := range answers {
			if e.Seq != own.Seq || !slices.Equal(e.Deps, own.Deps) {
				t.Fatalf("PathOf(%d, %v, %v) is fast", n, own, answers)
			}
		}
		joined, ok := impl.AnswersJoin(own, answers)
		if len(answers)+1 < impl.FastSize(n) || !ok || !sameEntry(joined, own) {
			t.Fatalf("PathOf(%d, %v, %v) is fast, and AnswersJoin %v, %v", n, own, answers, joined, ok)
		}
	}
	if got != -1 && (got == impl.PathNone) != (len(answers)+1 < impl.SlowSize(n)) {
		t.Fatalf("PathOf(%d, %v, %v) is %d", n, own, answers, got)
	}
	if !sameEntry(own, ownBefore) || !sameLog(answers, before) {
		t.Fatalf("PathOf of %v and %v makes them %v and %v", ownBefore, before, own, answers)
	}
}

// checkPaths holds AnswersJoin, and PathOf for each number of replicas, against the document.
func checkPaths(t *testing.T, own impl.Entry, answers []impl.Entry) {
	t.Helper()
	checkJoined(t, own, answers)
	for n := range 7 {
		checkPath(t, n, own, answers)
	}
}

// wantNoPaths checks that AnswersJoin fails, with the zero value, and PathOf for each number of replicas.
func wantNoPaths(t *testing.T, own impl.Entry, answers []impl.Entry) {
	t.Helper()
	if joined, ok := impl.AnswersJoin(own, answers); ok || !zeroEntry(joined) {
		t.Fatalf("AnswersJoin(%v, %v) is %v, %v", own, answers, joined, ok)
	}
	for n := -1; n <= 7; n++ {
		if got := impl.PathOf(n, own, answers); got != -1 {
			t.Fatalf("PathOf(%d, %v, %v) is %d", n, own, answers, got)
		}
	}
}

// ownEntries lists valid entries that are proposed, of each kind, with no ids, some, and as many as there may be.
func ownEntries() []impl.Entry {
	return []impl.Entry{seenOf("m5p1-ceg", 7), seenOf("m5r2", 0), seenOf("a99a0-bcdefghijklm", 999), seenOf("z1n-abcdefghijk", 500), seenOf("f50p5-a", 1), seenOf("b2p0-az", 12)}
}

// changed returns a copy of an entry that is changed.
func changed(e impl.Entry, change func(*impl.Entry)) impl.Entry {
	e = deepEntry(e)
	change(&e)
	return e
}

// unusedIds returns so many ids that an entry neither has nor depends on.
func unusedIds(e impl.Entry, many int) []impl.Id {
	all := slices.DeleteFunc(validIds(), func(a impl.Id) bool { return a == e.Id || slices.Contains(e.Deps, a) })
	ids := []impl.Id{}
	// Some of them are ahead of what the entry depends on, some between, and some behind.
	for i := range many {
		ids = append(ids, all[i*len(all)/many+len(all)/many/2])
	}
	return ids
}

// otherRanks lists copies of an entry with another rank alone.
func otherRanks(e impl.Entry) []impl.Entry {
	var list []impl.Entry
	for _, rank := range []int{e.Seq - 1, e.Seq + 1, 1, 2, 98, 99, 50} {
		if rank != e.Seq && rank >= 1 && rank <= 99 {
			list = append(list, changed(e, func(x *impl.Entry) { x.Seq = rank }))
		}
	}
	return list
}

// otherDeps lists copies of an entry with other ids alone: fewer, more, none, and others at each place.
func otherDeps(e impl.Entry) []impl.Entry {
	var list []impl.Entry
	add := func(deps []impl.Id) { list = append(list, changed(e, func(x *impl.Entry) { x.Deps = inOrder(deps) })) }
	if len(e.Deps) > 1 {
		add(nil)
	}
	for i := range e.Deps {
		fewer := slices.Delete(slices.Clone(e.Deps), i, i+1)
		add(fewer)
		for _, a := range unusedIds(e, 3) {
			add(append(slices.Clone(fewer), a))
		}
	}
	for many := 1; many <= 3 && len(e.Deps)+many <= 12; many++ {
		for range many {
			add(append(slices.Clone(e.Deps), unusedIds(e, many)...))
		}
	}
	add(unusedIds(e, 12))
	return list
}

// otherBallots lists copies of an entry with another ballot alone.
func otherBallots(e impl.Entry) []impl.Entry {
	var list []impl.Entry
	for _, ballot := range []int{e.Ballot - 1, e.Ballot + 1, 0, 999, 500} {
		if ballot != e.Ballot && ballot >= 0 && ballot <= 999 {
			list = append(list, changed(e, func(x *impl.Entry) { x.Ballot = ballot }))
		}
	}
	return list
}

// strangers lists copies of an entry that are valid, but with another id or another command alone.
func strangers(e impl.Entry) []impl.Entry {
	var list []impl.Entry
	replica, number := e.Id.Replica, e.Id.Number
	for _, a := range []impl.Id{id((replica+1)%5, number), id((replica+4)%5, number), id(replica, number%50+1), id(replica, (number+48)%50+1), id(0, 1), id(4, 50)} {
		if a != e.Id && !slices.Contains(e.Deps, a) {
			list = append(list, changed(e, func(x *impl.Entry) { x.Id = a }))
		}
	}
	for _, c := range validCommands() {
		same := 0
		for _, part := range []bool{c.Kind == e.What.Kind, c.Key == e.What.Key, c.Value == e.What.Value} {
			if part {
				same++
			}
		}
		// What reads or does nothing has fewer commands that differ in one part alone.
		if c != e.What && (same == 2 || same == 1 && c.Value < 2) {
			list = append(list, changed(e, func(x *impl.Entry) { x.What = c }))
		}
	}
	return list
}

// notProposed lists copies of an entry that are valid, but taken or fixed.
func notProposed(e impl.Entry) []impl.Entry {
	return []impl.Entry{changed(e, func(x *impl.Entry) { x.Status = impl.StatusTaken }), changed(e, func(x *impl.Entry) { x.Status = impl.StatusFixed })}
}

// copies returns so many copies of an entry.
func copies(e impl.Entry, many int) []impl.Entry {
	return deepLog(slices.Repeat([]impl.Entry{e}, many))
}

// withAt returns so many copies of an entry, with another one at a place.
func withAt(e impl.Entry, many, place int, other impl.Entry) []impl.Entry {
	list := copies(e, many)
	list[place] = other
	return list
}

// The helpers themselves must see what the tests rely on.
func TestPathHelpers(t *testing.T) {
	for _, e := range ownEntries() {
		if !wantAnswers(e, nil) || !sameLog(copies(e, 3), []impl.Entry{e, e, e}) || sharing(e, copies(e, 3)) {
			t.Fatalf("%v is not valid, or not copied", e)
		}
		for _, list := range [][]impl.Entry{otherRanks(e), otherDeps(e), otherBallots(e)} {
			if len(list) < 3 || !wantAnswers(e, list) || sharing(e, list) {
				t.Errorf("%v should be answers to %v", list, e)
			}
		}
		for _, x := range append(otherRanks(e), otherDeps(e)...) {
			if wantPath(3, e, []impl.Entry{e, x}) != 2 || (x.Seq == e.Seq) == slices.Equal(x.Deps, e.Deps) {
				t.Errorf("%v should differ from %v", x, e)
			}
		}
		for _, x := range append(strangers(e), notProposed(e)...) {
			if !wantEntry(x) || wantAnswers(e, []impl.Entry{x}) || (x.Id == e.Id && x.What == e.What) == (x.Status == e.Status) {
				t.Errorf("%v should be valid, but not an answer to %v", x, e)
			}
		}
		if len(strangers(e)) < 8 || len(notProposed(e)) != 2 {
			t.Errorf("%v has only %v and %v", e, strangers(e), notProposed(e))
		}
	}
	own, other := seenOf("m5p1-cg", 7), seenOf("m6p1-aez", 3)
	want := impl.Entry{Id: letter('m'), Ballot: 7, Status: 1, What: put(1, 37), Seq: 6, Deps: lettersOf("acegz")}
	if got, ok := wantAnswersJoin(own, []impl.Entry{own, other}); !ok || !sameEntry(got, want) {
		t.Errorf("wantAnswersJoin is %v, %v", got, ok)
	}
	if got, ok := wantAnswersJoin(own, copies(own, 5)); ok || !zeroEntry(got) {
		t.Errorf("wantAnswersJoin of too many is %v, %v", got, ok)
	}
}

func TestPathConstants(t *testing.T) {
	if impl.PathNone != 0 || impl.PathFast != 1 || impl.PathSlow != 2 {
		t.Errorf("the constants are %d, %d, %d", impl.PathNone, impl.PathFast, impl.PathSlow)
	}
}

// Promises 63 to 65: each number of replicas.
func TestSizes(t *testing.T) {
	for n, want := range map[int][2]int{1: {1, 1}, 2: {2, 2}, 3: {2, 3}, 4: {3, 3}, 5: {3, 4}} {
		slow, fast := impl.SlowSize(n), impl.FastSize(n)
		if slow != want[0] || fast != want[1] || slow != wantSlow(n) || fast != wantFast(n) {
			t.Errorf("SlowSize(%d) is %d, and FastSize %d, not %v", n, slow, fast, want)
		}
		if 2*slow <= n || slow > n {
			t.Errorf("SlowSize(%d) is %d", n, slow)
		}
		if 2*fast+slow <= 2*n || fast < slow || 4*fast < 3*n || fast > n {
			t.Errorf("SlowSize(%d) is %d, and FastSize %d", n, slow, fast)
		}
	}
}

func TestSizesOutside(t *testing.T) {
	for _, n := range edgeSizes() {
		if slow, fast := impl.SlowSize(n), impl.FastSize(n); slow != -1 || fast != -1 {
			t.Errorf("SlowSize(%d) is %d, and FastSize %d", n, slow, fast)
		}
	}
	for n := -300; n <= 300; n++ {
		if slow, fast := impl.SlowSize(n), impl.FastSize(n); slow != wantSlow(n) || fast != wantFast(n) {
			t.Errorf("SlowSize(%d) is %d, and FastSize %d", n, slow, fast)
		}
	}
}

// Each number of replicas with each number of answers.
func TestMeetSize(t *testing.T) {
	for n, row := range map[int][]int{1: {0, 1}, 2: {0, 1, 2}, 3: {0, 1, 2, 3}, 4: {0, 0, 1, 2, 3}, 5: {0, 0, 1, 2, 3, 4}} {
		for answers, want := range row {
			if got := impl.MeetSize(n, answers); got != want || got != wantMeet(n, answers) {
				t.Errorf("MeetSize(%d, %d) is %d, not %d", n, answers, got, want)
			}
		}
		for _, answers := range []int{-1, n + 1, -2, n + 2, -n, 2 * n, math.MinInt, math.MaxInt, 1<<32 + 1, -1<<32 + 1, 1<<8 + 1} {
			if got := impl.MeetSize(n, answers); answers != 0 && got != -1 {
				t.Errorf("MeetSize(%d, %d) is %d", n, answers, got)
			}
		}
	}
}

// Promises 66, 67 and 73, by their words.
func TestMeetSizeWords(t *testing.T) {
	for n := -2; n <= 8; n++ {
		for answers := -2; answers <= 8; answers++ {
			got, next := impl.MeetSize(n, answers), impl.MeetSize(n, answers+1)
			if got == -1 {
				continue
			}
			if got < 0 || answers >= impl.SlowSize(n) && (got < 1 || got > answers || 2*got <= answers) {
				t.Errorf("MeetSize(%d, %d) is %d", n, answers, got)
			}
			if answers < n && next != got && next != got+1 {
				t.Errorf("MeetSize(%d, %d) is %d, and of one answer more %d", n, answers, got, next)
			}
			if answers == n && got != impl.FastSize(n) {
				t.Errorf("MeetSize(%d, %d) is %d, and FastSize %d", n, answers, got, impl.FastSize(n))
			}
		}
	}
}

// A number of replicas that is not in range, with answers that would be in range of another one, and with others.
func TestMeetSizeOutside(t *testing.T) {
	for _, n := range edgeSizes() {
		for answers := -1; answers <= 7; answers++ {
			if got := impl.MeetSize(n, answers); got != -1 {
				t.Errorf("MeetSize(%d, %d) is %d", n, answers, got)
			}
		}
		for _, answers := range append(edgeSizes(), n, n-1, n+1, -n) {
			if got := impl.MeetSize(n, answers); got != -1 {
				t.Errorf("MeetSize(%d, %d) is %d", n, answers, got)
			}
		}
	}
	for n := -40; n <= 40; n++ {
		for answers := -40; answers <= 40; answers++ {
			if got := impl.MeetSize(n, answers); got != wantMeet(n, answers) {
				t.Errorf("MeetSize(%d, %d) is %d, not %d", n, answers, got, wantMeet(n, answers))
			}
		}
	}
}

// No answers, nil and empty: the entry itself is returned.
func TestAnswersJoinNone(t *testing.T) {
	for _, e := range append(ownEntries(), changed(seenOf("m5p1", 7), func(x *impl.Entry) { x.Deps = nil })) {
		for _, answers := range [][]impl.Entry{nil, {}, make([]impl.Entry, 0, 8), copies(e, 4)[:0]} {
			if got, ok := impl.AnswersJoin(e, answers); !ok || !sameEntry(got, e) {
				t.Errorf("AnswersJoin(%v, none) is %v, %v", e, got, ok)
			}
			checkPaths(t, e, answers)
		}
	}
}

func TestAnswersJoinTable(t *testing.T) {
	for _, test := range []struct {
		name, own, answers string
		rank               int
		deps               string
	}{
		{"one equal answer", "m5p1-ceg", "m5p1-ceg", 5, "ceg"},
		{"four equal answers", "m5p1-ceg", "m5p1-ceg m5p1-ceg m5p1-ceg m5p1-ceg", 5, "ceg"},
		{"five equal answers", "m5p1-ceg", "m5p1-ceg m5p1-ceg m5p1-ceg m5p1-ceg m5p1-ceg", 0, ""},
		{"a rank that is less by 1", "m5p1-ceg", "m4p1-ceg", 5, "ceg"},
		{"a rank that is greater by 1", "m5p1-ceg", "m6p1-ceg", 6, "ceg"},
		{"the least rank", "m5p1-ceg", "m1p1-ceg", 5, "ceg"},
		{"the greatest rank", "m5p1-ceg", "m99p1-ceg", 99, "ceg"},
		{"the greatest rank of its own", "m99p1-ceg", "m98p1-ceg m1p1-ceg", 99, "ceg"},
		{"a greater rank at the beginning", "m5p1", "m9p1 m5p1 m5p1 m5p1", 9, ""},
		{"a greater rank in the middle", "m5p1", "m5p1 m9p1 m5p1 m5p1", 9, ""},
		{"a greater rank at the end", "m5p1", "m5p1 m5p1 m5p1 m9p1", 9, ""},
		{"ranks that ascend", "m5p1", "m6p1 m7p1 m8p1 m9p1", 9, ""},
		{"ranks that descend", "m9p1", "m8p1 m7p1 m6p1 m5p1", 9, ""},
		{"ranks around", "m5p1", "m3p1 m8p1 m4p1 m7p1", 8, ""},
		{"no ids", "m5p1", "m5p1 m5p1", 5, ""},
		{"ids of the answer alone", "m5p1", "m5p1-ceg", 5, "ceg"},
		{"ids of the entry alone", "m5p1-ceg", "m5p1", 5, "ceg"},
		{"ids within those of the entry", "m5p1-ceg", "m5p1-e", 5, "ceg"},
		{"ids that are more", "m5p1-e", "m5p1-ceg", 5, "ceg"},
		{"ids apart, ahead", "m5p1-ceg", "m5p1-ab", 5, "abceg"},
		{"ids apart, between", "m5p1-ceg", "m5p1-df", 5, "cdefg"},
		{"ids apart, behind", "m5p1-ceg", "m5p1-xyz", 5, "cegxyz"},
		{"ids apart, around", "m5p1-ceg", "m5p1-adz", 5, "acdegz"},
		{"ids partly among them", "m5p1-ceg", "m5p1-aeg", 5, "aceg"},
		{"other ids at the beginning", "m5p1-c", "m5p1-a m5p1-c m5p1-c", 5, "ac"},
		{"other ids in the middle", "m5p1-c", "m5p1-c m5p1-a m5p1-c", 5, "ac"},
		{"other ids at the end", "m5p1-c", "m5p1-c m5p1-c m5p1-a", 5, "ac"},
		{"ids of four answers", "m5p1-e", "m5p1-a m5p1-z m5p1-f m5p1-d", 5, "adefz"},
		{"the same answer twice", "m5p1-e", "m7p1-ax m7p1-ax", 7, "aex"},
		{"the same answer twice, apart", "m5p1-e", "m7p1-ax m5p1-e m7p1-ax", 7, "aex"},
		{"the same answer four times", "m5p1-e", "m7p1-ax m7p1-ax m7p1-ax m7p1-ax", 7, "aex"},
		{"the rank of one, and the ids of another one", "m5p1", "m7p1 m5p1-ax", 7, "ax"},
		{"a lesser rank, and other ids", "m5p1-e", "m2p1-ax", 5, "aex"},
		{"together IdsMax ids", "m5p1-abcdef", "m5p1-ghijkl", 5, "abcdefghijkl"},
		{"together IdsMax ids, partly the same", "m5p1-abcdefgh", "m5p1-efghijkl m5p1-bdfhjl", 5, "abcdefghijkl"},
		{"together IdsMax ids of four answers", "m5p1-abcd", "m5p1-ef m5p1-gh m5p1-ij m5p1-kl", 5, "abcdefghijkl"},
		{"IdsMax ids within", "m5p1-abcdefghijkl", "m5p1-ad m5p1 m5p1-abcdefghijkl m5p1-l", 5, "abcdefghijkl"},
		{"together one more than IdsMax ids", "m5p1-abcdef", "m5p1-ghijkln", 0, ""},
		{"together one more, ahead", "m5p1-bcdefghijkln", "m5p1-a", 0, ""},
		{"together one more, between", "m5p1-abcdfghijkln", "m5p1-e", 0, ""},
		{"together one more, behind", "m5p1-abcdefghijkl", "m5p1-z", 0, ""},
		{"together one more, of four answers", "m5p1-abcd", "m5p1-ef m5p1-gh m5p1-ij m5p1-kln", 0, ""},
		{"too many of two answers alone", "m5p1", "m5p1-abcdefg m5p1-hijklno", 0, ""},
		{"too many by far", "m5p1-abcdefghijkl", "m5p1-nopqrstuvwxy", 0, ""},
		{"another id", "m5p1", "n5p1", 0, ""},
		{"another key", "m5p1", "m5p2", 0, ""},
		{"another kind", "m5r1", "m5p1", 0, ""},
		{"another kind, at the end", "m5p1", "m5p1 m5p1 m5p1 m5a1", 0, ""},
		{"reading", "m5r1-a", "m6r1-b", 6, "ab"},
		{"adding", "m5a1-a", "m6a1-b", 6, "ab"},
		{"nothing", "m5n-a", "m6n-b", 6, "ab"},
	} {
		own, answers := seenOf(test.own, 7), seenAnswers(test.answers)
		got, ok := impl.AnswersJoin(own, answers)
		if ok != (test.rank > 0) || !ok && !zeroEntry(got) {
			t.Errorf("%s: AnswersJoin is %v, %v", test.name, got, ok)
		}
		if ok && (got.Id != own.Id || got.Ballot != 7 || got.Status != impl.StatusSeen || got.What != own.What || got.Seq != test.rank || asLetters(got.Deps) != test.deps) {
			t.Errorf("%s: AnswersJoin is %v", test.name, got)
		}
		checkPaths(t, own, answers)
	}
}

// seenAnswers returns the answers of a text with a word for each, with ballots around that of the table.
func seenAnswers(text string) []impl.Entry {
	var answers []impl.Entry
	for i, word := range strings.Fields(text) {
		answers = append(answers, seenOf(word, []int{7, 0, 999, 8, 6}[i]))
	}
	return answers
}

// Answers that are equal to the entry, up to as many as there may be, and beyond.
func TestAnswersJoinMany(t *testing.T) {
	for _, e := range ownEntries() {
		for many := range 12 {
			got, ok := impl.AnswersJoin(e, copies(e, many))
			if ok != (many < impl.ReplicasMax) || ok && !sameEntry(got, e) || !ok && !zeroEntry(got) {
				t.Errorf("AnswersJoin of %v and %d answers is %v, %v", e, many, got, ok)
			}
			checkPaths(t, e, copies(e, many))
		}
		for _, many := range []int{255, 256, 257, 1 << 16, 1<<16 + 1} {
			wantNoPaths(t, e, slices.Repeat([]impl.Entry{e}, many))
			wantNoPaths(t, e, make([]impl.Entry, many))
		}
	}
}

// One answer that differs from the entry and from all others, at each place of each number of answers.
func TestPathsOneDiffers(t *testing.T) {
	for _, own := range ownEntries() {
		for many := 1; many < impl.ReplicasMax; many++ {
			for place := range many {
				for _, x := range append(otherRanks(own), otherDeps(own)...) {
					answers := withAt(own, many, place, x)
					checkPaths(t, own, answers)
					for n := many + 1; n <= 5; n++ {
						want := impl.PathNone
						if 2*(many+1) > n {
							want = impl.PathSlow
						}
						if got := impl.PathOf(n, own, answers); got != want {
							t.Fatalf("PathOf(%d, %v, %v) is %d, not %d", n, own, answers, got, want)
						}
					}
					// It differs, too, if the entry is the only one that is not like all others.
					checkPaths(t, x, copies(own, many))
				}
			}
		}
	}
}

// Ballots do not matter, whatever they are: of one answer at each place, and of all.
func TestPathsBallots(t *testing.T) {
	for _, own := range ownEntries() {
		for many := 1; many < impl.ReplicasMax; many++ {
			lists := [][]impl.Entry{}
			for _, x := range otherBallots(own) {
				lists = append(lists, copies(x, many))
				for place := range many {
					lists = append(lists, withAt(own, many, place, x))
				}
			}
			for _, answers := range append(lists, otherBallots(own)[:min(many, 3)]) {
				if got, ok := impl.AnswersJoin(own, answers); !ok || !sameEntry(got, own) {
					t.Fatalf("AnswersJoin(%v, %v) is %v, %v", own, answers, got, ok)
				}
				for n := len(answers) + 1; n <= 5; n++ {
					if got, want := impl.PathOf(n, own, answers), impl.PathOf(n, own, copies(own, len(answers))); got != want {
						t.Fatalf("PathOf(%d, %v, %v) is %d, and with equal ballots %d", n, own, answers, got, want)
					}
				}
				checkPaths(t, own, answers)
			}
		}
	}
	own, answer := seenOf("m5p1-ceg", 0), seenOf("m6p1-cz", 0)
	for ballot := range 1000 {
		own.Ballot, answer.Ballot = ballot, 999-ballot
		got, ok := impl.AnswersJoin(own, []impl.Entry{answer})
		if !ok || got.Ballot != ballot || impl.PathOf(3, own, []impl.Entry{answer}) != impl.PathSlow {
			t.Fatalf("AnswersJoin(%v, %v) is %v, %v", own, answer, got, ok)
		}
	}
}

// Each two ranks of the entry and of an answer.
func TestPathsRanks(t *testing.T) {
	own, answer := seenOf("m5p1-ceg", 4), seenOf("m5p1-ceg", 9)
	for own.Seq = 1; own.Seq <= 99; own.Seq++ {
		for answer.Seq = 1; answer.Seq <= 99; answer.Seq++ {
			path := impl.PathSlow
			if own.Seq == answer.Seq {
				path = impl.PathFast
			}
			got, ok := impl.AnswersJoin(own, []impl.Entry{answer})
			if !ok || got.Seq != max(own.Seq, answer.Seq) || len(got.Deps) != 3 {
				t.Fatalf("AnswersJoin(%v, %v) is %v, %v", own, answer, got, ok)
			}
			if got := impl.PathOf(2, own, []impl.Entry{answer}); got != path {
				t.Fatalf("PathOf(2, %v, %v) is %d", own, answer, got)
			}
		}
	}
}

// Each valid id to depend on, of the entry or of an answer alone.
func TestPathsEachDep(t *testing.T) {
	for _, a := range validIds() {
		own, answer := seenOf("m5p1-ceg", 4), seenOf("m5p1-ceg", 9)
		if a == own.Id || slices.Contains(own.Deps, a) {
			continue
		}
		answer.Deps = inOrder(append(answer.Deps, a))
		for _, list := range [][2]impl.Entry{{own, answer}, {answer, own}} {
			got, ok := impl.AnswersJoin(list[0], []impl.Entry{list[1]})
			if path := impl.PathOf(2, list[0], []impl.Entry{list[1]}); !ok || !slices.Equal(got.Deps, answer.Deps) || path != impl.PathSlow {
				t.Fatalf("AnswersJoin(%v, %v) is %v, %v, and PathOf %d", list[0], list[1], got, ok, path)
			}
		}
		checkPaths(t, answer, []impl.Entry{answer, own})
	}
}

// Up to IdsMax ids are together fine for AnswersJoin, and more are not; PathOf does not mind.
func TestPathsIdsLimit(t *testing.T) {
	random := rand.New(rand.NewSource(68))
	for many := range 13 {
		for common := 0; common <= many; common++ {
			for apart := 0; common+apart <= 12; apart++ {
				ids := someIds(random, many+apart+1)
				own := impl.Entry{Id: ids[0], Ballot: 3, Status: 1, What: read(1), Seq: 5, Deps: inOrder(ids[1 : 1+many])}
				answer := changed(own, func(x *impl.Entry) { x.Deps = inOrder(append(slices.Clone(ids[1:1+common]), ids[1+many:]...)) })
				for place := range 4 {
					answers := withAt(own, 4, place, answer)
					got, ok := impl.AnswersJoin(own, answers)
					if ok != (many+apart <= impl.IdsMax) || ok && len(got.Deps) != many+apart || !ok && !zeroEntry(got) {
						t.Fatalf("AnswersJoin(%v, %v) is %v, %v", own, answers, got, ok)
					}
					if got := impl.PathOf(5, own, answers); (got == impl.PathFast) != (apart == 0 && common == many) || got == impl.PathNone || got == -1 {
						t.Fatalf("PathOf(5, %v, %v) is %d", own, answers, got)
					}
					checkPaths(t, own, answers)
				}
			}
		}
	}
}

// Ids that are too many only together, of an entry and of up to four answers.
func TestPathsIdsLimitShared(t *testing.T) {
	random := rand.New(rand.NewSource(69))
	for range 300 {
		ids := someIds(random, 15)
		for together := 10; together <= 14; together++ {
			own := impl.Entry{Id: ids[0], Status: 1, What: add(1, 1), Seq: 5}
			list := copies(own, 5)
			for i, a := range ids[1 : 1+together] {
				// Each id is at a place of its own, and at one more that may be the same.
				for _, place := range []int{i % 5, random.Intn(5)} {
					list[place].Deps = append(list[place].Deps, a)
				}
			}
			for i := range list {
				list[i].Deps = inOrder(list[i].Deps)
			}
			if _, ok := impl.AnswersJoin(list[0], list[1:]); ok != (together <= impl.IdsMax) {
				t.Fatalf("AnswersJoin(%v, %v), with together %d ids, tells %v", list[0], list[1:], together, ok)
			}
			checkPaths(t, list[0], list[1:])
		}
	}
}

// Each valid command and each valid id, and some parts of each.
func TestPathsEachSubject(t *testing.T) {
	for _, c := range validCommands() {
		own := changed(seenOf("m5p1-ceg", 7), func(x *impl.Entry) { x.What = c })
		answers := []impl.Entry{changed(own, func(x *impl.Entry) { x.Seq = 8 }), deepEntry(own)}
		checkPaths(t, own, answers)
		checkPaths(t, own, answers[1:])
	}
	for _, a := range validIds() {
		own := impl.Entry{Id: a, Ballot: 500, Status: 1, What: put(1, 6), Seq: 1}
		answers := []impl.Entry{changed(own, func(x *impl.Entry) { x.Deps = unusedIds(own, 3) }), deepEntry(own)}
		checkPaths(t, own, answers)
		checkPaths(t, own, answers[1:])
	}
}

// An answer with another id or another command, or one that is taken or fixed, at each place.
func TestPathsStrangers(t *testing.T) {
	for _, own := range ownEntries() {
		for _, bad := range append(strangers(own), notProposed(own)...) {
			for many := 1; many < impl.ReplicasMax; many++ {
				for place := range many {
					wantNoPaths(t, own, withAt(own, many, place, bad))
				}
				// All answers are alike, but not like the entry; then the entry is what does not fit.
				wantNoPaths(t, own, copies(bad, many))
				wantNoPaths(t, bad, copies(own, many))
			}
		}
	}
}

// The entry and all answers are taken or fixed, also without any answer.
func TestPathsNotProposed(t *testing.T) {
	for _, own := range ownEntries() {
		for _, bad := range notProposed(own) {
			for many := range 7 {
				wantNoPaths(t, bad, copies(bad, many))
				wantNoPaths(t, bad, copies(own, many))
			}
		}
	}
}

// Each two commands, and each two ids, of an entry and an answer.
func TestPathsTwoSubjects(t *testing.T) {
	commands := slices.DeleteFunc(askedCommands(), func(c impl.Command) bool { return !valids[c] })
	for _, c := range commands {
		for _, d := range commands {
			own, answer := seenOf("m5p1-ceg", 7), seenOf("m5p1-ceg", 7)
			own.What, answer.What = c, d
			if path := impl.PathOf(2, own, []impl.Entry{answer}); (path == impl.PathFast) != (c == d) || c != d && path != -1 {
				t.Fatalf("PathOf of %v and an answer %v is %d", c, d, path)
			}
			checkJoined(t, own, []impl.Entry{answer})
		}
	}
	for _, a := range validIds() {
		for _, b := range validIds() {
			own, answer := impl.Entry{Id: a, Status: 1, What: none(), Seq: 1}, impl.Entry{Id: b, Status: 1, What: none(), Seq: 1}
			_, ok := impl.AnswersJoin(own, []impl.Entry{answer})
			if path := impl.PathOf(2, own, []impl.Entry{answer}); ok != (a == b) || (path == impl.PathFast) != (a == b) || a != b && path != -1 {
				t.Fatalf("PathOf of %v and an answer %v is %d", a, b, path)
			}
		}
	}
}

// The entry or one answer, at each place, that is invalid in one part alone.
func TestPathsInvalid(t *testing.T) {
	for _, own := range ownEntries() {
		for name, bad := range spoiledEntries(own) {
			if wantEntry(bad) {
				t.Fatalf("%s: %v should be invalid", name, bad)
			}
			for many := range 6 {
				for place := range many {
					wantNoPaths(t, own, withAt(own, many, place, bad))
				}
				wantNoPaths(t, bad, copies(own, many))
				wantNoPaths(t, bad, copies(bad, many))
			}
		}
	}
	for _, a := range invalidIds() {
		bad := impl.Entry{Id: a, Status: 1, What: none(), Seq: 1}
		wantNoPaths(t, bad, nil)
		wantNoPaths(t, bad, copies(bad, 2))
	}
	for _, c := range invalidCommands() {
		bad := impl.Entry{Id: letter('c'), Status: 1, What: c, Seq: 1}
		wantNoPaths(t, bad, nil)
		wantNoPaths(t, bad, copies(bad, 2))
	}
}

// What each number of equal answers, and with one that differs, is for each number of replicas.
func TestPathOf(t *testing.T) {
	none, fast, slow := impl.PathNone, impl.PathFast, impl.PathSlow
	for n, row := range map[int][]int{1: {fast}, 2: {none, fast}, 3: {none, slow, fast}, 4: {none, none, fast, fast}, 5: {none, none, slow, fast, fast}} {
		for _, own := range ownEntries() {
			for many, want := range row {
				if got := impl.PathOf(n, own, copies(own, many)); got != want {
					t.Errorf("PathOf(%d, %v, %d equal answers) is %d, not %d", n, own, many, got, want)
				}
				if want == fast {
					want = slow
				}
				for place := range many {
					for _, x := range append(otherRanks(own), otherDeps(own)...) {
						if got := impl.PathOf(n, own, withAt(own, many, place, x)); got != want {
							t.Errorf("PathOf(%d, %v, %d answers with %v) is %d, not %d", n, own, many, x, got, want)
						}
					}
				}
			}
			for many := n; many < 12; many++ {
				if got := impl.PathOf(n, own, copies(own, many)); got != -1 {
					t.Errorf("PathOf(%d, %v, %d answers) is %d", n, own, many, got)
				}
			}
		}
	}
}

// A number of replicas that is not in range, with any number of answers.
func TestPathOfOutside(t *testing.T) {
	for _, n := range edgeSizes() {
		for many := range 9 {
			for _, own := range ownEntries() {
				if got := impl.PathOf(n, own, copies(own, many)); got != -1 {
					t.Fatalf("PathOf(%d, %v, %d answers) is %d", n, own, many, got)
				}
			}
			if got := impl.PathOf(n, impl.Entry{}, make([]impl.Entry, many)); got != -1 {
				t.Fatalf("PathOf(%d, no entry, %d answers) is %d", n, many, got)
			}
		}
	}
}

// All answers of a few kinds, in any order: equal ones, and those that differ in one part or in several.
func TestPathsEachList(t *testing.T) {
	own := seenOf("m5p1-ceg", 7)
	kinds := []impl.Entry{own, seenOf("m5p1-ceg", 8), seenOf("m4p1-ceg", 7), seenOf("m6p1-ceg", 7), seenOf("m5p1-ce", 7), seenOf("m5p1-cegx", 7), seenOf("m5p1-cfg", 7), seenOf("m9p1-a", 2)}
	for many := range 5 {
		lists := 1
		for range many {
			lists *= len(kinds)
		}
		for which := range lists {
			var answers []impl.Entry
			for range many {
				answers = append(answers, kinds[which%len(kinds)])
				which /= len(kinds)
			}
			checkPaths(t, own, answers)
		}
	}
}

// The order of answers does not count, and which of all is the entry counts for its ballot alone.
func TestPathsOrder(t *testing.T) {
	random := rand.New(rand.NewSource(70))
	for range 500 {
		list := someAnswers(random, random.Intn(5))
		joined, ok := impl.AnswersJoin(list[0], list[1:])
		path := impl.PathOf(5, list[0], list[1:])
		shuffled := deepLog(list)
		random.Shuffle(len(shuffled), func(i, j int) { shuffled[i], shuffled[j] = shuffled[j], shuffled[i] })
		again, fine := impl.AnswersJoin(shuffled[0], shuffled[1:])
		joined.Ballot, again.Ballot = 0, 0
		if ok != fine || !sameEntry(joined, again) || impl.PathOf(5, shuffled[0], shuffled[1:]) != path {
			t.Fatalf("AnswersJoin of %v is %v, %v, and of %v %v, %v", list, joined, ok, shuffled, again, fine)
		}
	}
}

// someAnswers returns an entry and so many answers, equal to it or not, with few or many ids.
func someAnswers(random *rand.Rand, many int) []impl.Entry {
	own := someEntry(random, someIds(random, 1)[0], 99)
	own.Status, own.Deps = impl.StatusSeen, own.Deps[:random.Intn(len(own.Deps)+1)]
	list := []impl.Entry{own}
	for range many {
		answer := deepEntry(list[random.Intn(len(list))])
		answer.Ballot = random.Intn(1000)
		if random.Intn(3) == 0 {
			answer.Seq = 1 + random.Intn(99)
		}
		if random.Intn(3) == 0 {
			answer.Deps = someEntry(random, own.Id, 99).Deps
		}
		if random.Intn(3) == 0 && len(answer.Deps) < 12 {
			answer.Deps = inOrder(append(answer.Deps, unusedIds(answer, 1)...))
		}
		list = append(list, answer)
	}
	return list
}

// Promises 68 to 72: any entries with any number of answers, fitting or not.
func TestPathsAny(t *testing.T) {
	random := rand.New(rand.NewSource(71))
	for range 4000 {
		list := someAnswers(random, random.Intn(7))
		checkPaths(t, list[0], list[1:])
		// One part of one of them is changed, so that it may not fit any more.
		place := random.Intn(len(list))
		switch with := &list[place]; random.Intn(4) {
		case 0:
			with.Status = random.Intn(5)
		case 1:
			with.What = manyCommands(random, 1)[0]
		case 2:
			with.Id = someIds(random, 1)[0]
		case 3:
			with.Seq = random.Intn(102) - 1
		}
		checkPaths(t, list[0], list[1:])
	}
}

// Replicas propose and tell each other: what they return can be joined, and is on a path by what their logs have.
func TestPathsOfProposals(t *testing.T) {
	random := rand.New(rand.NewSource(72))
	seen := map[int]int{}
	for range 400 {
		n := 1 + random.Intn(5)
		logs := make([][]impl.Entry, n)
		for range 10 {
			leader := random.Intn(n)
			after, own, ok := impl.Propose(logs[leader], leader, manyCommands(random, 1)[0])
			if !ok {
				continue
			}
			logs[leader] = after
			var answers []impl.Entry
			for other := range n {
				if other == leader || random.Intn(4) == 0 {
					continue
				}
				if told, answer, fine := impl.PreAccept(logs[other], own); fine {
					logs[other], answers = told, append(answers, answer)
				}
			}
			checkPaths(t, own, answers)
			path := impl.PathOf(n, own, answers)
			if path == -1 {
				t.Fatalf("PathOf(%d, %v, %v) is -1", n, own, answers)
			}
			seen[path]++
		}
	}
	if seen[impl.PathNone] < 20 || seen[impl.PathFast] < 20 || seen[impl.PathSlow] < 20 {
		t.Errorf("the paths are only %v", seen)
	}
}

// pathResults lists the results of all functions for some entries and answers, each as a log.
func pathResults(answers, owns []impl.Entry) [][]impl.Entry {
	var results [][]impl.Entry
	for _, own := range owns {
		for many := range len(answers) + 1 {
			joined, _ := impl.AnswersJoin(own, answers[:many])
			path := impl.PathOf(len(answers)+1, own, answers[:many])
			results = append(results, []impl.Entry{joined}, []impl.Entry{{Seq: path, Ballot: impl.MeetSize(many, path)}})
		}
	}
	return results
}

// Also where a function fails.
func TestPathMemory(t *testing.T) {
	random := rand.New(rand.NewSource(73))
	var lists [][]impl.Entry
	for _, own := range ownEntries() {
		for many := range 6 {
			lists = append(lists, copies(own, many+1), append(copies(own, many+1), otherDeps(own)[0]))
		}
		lists = append(lists, otherRanks(own)[:3], otherDeps(own)[:3], otherBallots(own)[:3], strangers(own)[:3], notProposed(own))
	}
	for many := range 60 {
		lists = append(lists, someAnswers(random, many%6))
	}
	for _, list := range lists {
		checkLogMemory(t, list[1:], list[:1], pathResults)
		checkLogMemory(t, list, ownEntries()[:3], pathResults)
		checkLogMemory(t, list, list[:1], pathResults)
	}
}

// The entry and answers may depend on the same memory, or on parts of it that overlap, and be of one slice.
func TestPathOneMemory(t *testing.T) {
	deps, whole := roomy(lettersOf("abcd"))
	base := impl.Entry{Id: letter('m'), Ballot: 4, Status: 1, What: put(1, 1), Seq: 3}
	list := copies(base, 5)
	for i, part := range [][]impl.Id{deps, deps[1:3], deps, deps[:0], deps[2:]} {
		list[i].Deps = part
	}
	before, idsBefore := deepLog(list), slices.Clone(whole)
	for i, own := range list {
		for many := range 5 {
			want, _ := wantAnswersJoin(before[i], before[:many])
			first, ok := impl.AnswersJoin(own, list[:many])
			second, fine := impl.AnswersJoin(own, list[:many])
			third, again := impl.AnswersJoin(first, []impl.Entry{second})
			if !ok || !fine || !again || !sameEntry(first, want) || !sameEntry(third, want) || sharing(whole, first, second, third) {
				t.Fatalf("AnswersJoin(%v, %v) is %v, or shares what it is given", own, list[:many], first)
			}
			impl.PathOf(5, own, list[:many])
			spoilIds(first.Deps)
			spoilIds(third.Deps)
			if !sameLog(list, before) || !slices.Equal(whole, idsBefore) || !sameEntry(second, want) {
				t.Fatalf("behind AnswersJoin(%v, %v), its result changes an argument or another result", own, list[:many])
			}
		}
	}
	joined, _ := impl.AnswersJoin(list[0], list[1:])
	want := deepEntry(joined)
	spoilIds(deps)
	spoilLog(list)
	if !sameEntry(joined, want) {
		t.Errorf("behind AnswersJoin, its arguments change %v to %v", want, joined)
	}
}

// The same call gives the same result, however often it is made.
func TestPathAgain(t *testing.T) {
	random := rand.New(rand.NewSource(74))
	for i := range 20 {
		list := someAnswers(random, i%5)
		want := pathResults(list[1:], list[:1])
		for range 20 {
			if got := pathResults(list[1:], list[:1]); !sameLogs(got, want) {
				t.Fatalf("a function of %v returns different results", list)
			}
		}
	}
	for n := -1; n <= 6; n++ {
		slow, fast := impl.SlowSize(n), impl.FastSize(n)
		for answers := -1; answers <= 6; answers++ {
			meet := impl.MeetSize(n, answers)
			if impl.SlowSize(n) != slow || impl.FastSize(n) != fast || impl.MeetSize(n, answers) != meet {
				t.Errorf("a size of %d replicas and %d answers returns different results", n, answers)
			}
		}
	}
}

func FuzzPaths(f *testing.F) {
	f.Add([]byte{}, false, 0)
	f.Add([]byte{14, 6, 6, 9, 2, 15, 6, 7, 200, 1, 30, 99, 5, 3, 0}, true, 1)
	f.Add([]byte{14, 1, 0, 4, 0, 14, 1, 0, 4, 0}, false, 2)
	f.Add([]byte{14, 9, 6, 9, 2, 14, 9, 6, 9, 2, 14, 9, 6, 9, 2}, true, 3)
	f.Add([]byte{27, 98, 6, 4, 240, 27, 96, 6, 4, 255, 27, 99, 11, 4, 0, 27, 1, 1, 1, 15}, true, 5)
	f.Fuzz(func(t *testing.T, bytes []byte, same bool, n int) {
		list := entriesOfBytes(bytes[:min(60, len(bytes))])
		for i := range list {
			if same {
				list[i].Id, list[i].Status, list[i].What = list[0].Id, impl.StatusSeen, list[0].What
			}
		}
		if got := impl.SlowSize(n); got != wantSlow(n) {
			t.Fatalf("SlowSize(%d) is %d", n, got)
		}
		if got := impl.FastSize(n); got != wantFast(n) {
			t.Fatalf("FastSize(%d) is %d", n, got)
		}
		for _, answers := range []int{len(list), len(bytes), -len(bytes)} {
			if got := impl.MeetSize(n, answers); got != wantMeet(n, answers) {
				t.Fatalf("MeetSize(%d, %d) is %d", n, answers, got)
			}
		}
		for i, own := range list {
			for many := range len(list) + 1 {
				checkPaths(t, own, list[:many])
				checkPath(t, n, own, list[:many])
			}
			checkLogMemory(t, list[i:], list[:i], pathResults)
		}
	})
}
