package tests

import (
	"math"
	"math/rand"
	"slices"
	"strings"
	"testing"

	"loop.example/leaderlesslog/impl"
)

// wantBallot returns what BallotOf has to return, by looking at the round and the replica of each ballot.
func wantBallot(round, replica int) int {
	for ballot := range 1000 {
		if ballot/5 == round && ballot%5 == replica {
			return ballot
		}
	}
	return -1
}

// wantNext returns what BallotNext has to return, by trying all greater ballots.
func wantNext(ballot, replica int) int {
	if ballot < 0 || ballot > 999 {
		return -1
	}
	for next := ballot + 1; next < 1000; next++ {
		if next%5 == replica {
			return next
		}
	}
	return -1
}

// wantTake returns what TakeEntry has to return, by the words of the document.
func wantTake(list []impl.Entry, e impl.Entry) ([]impl.Entry, bool) {
	if !wantLog(list) || !wantEntry(e) || e.Status != 2 {
		return nil, false
	}
	if old, there := wantFind(list, e.Id); there && (old.Status == 3 || old.Ballot > e.Ballot) {
		return nil, false
	}
	return wantPut(list, e)
}

// wantFix returns what FixEntry has to return, by the words of the document.
func wantFix(list []impl.Entry, e impl.Entry) ([]impl.Entry, bool) {
	if !wantLog(list) || !wantEntry(e) || e.Status != 3 {
		return nil, false
	}
	if old, there := wantFind(list, e.Id); there && old.Status == 3 {
		if old.What != e.What || old.Seq != e.Seq || !slices.Equal(old.Deps, e.Deps) {
			return nil, false
		}
		return list, true
	}
	return wantPut(list, e)
}

// farNumbers lists numbers that are neither rounds, nor replicas, nor ballots: beside the limits, far outside, and where the product with ReplicasMax would wrap around into the range.
func farNumbers() []int {
	list := []int{math.MinInt, math.MinInt + 1, math.MinInt / 5, math.MinInt/5 - 1, -1 << 32, -1<<32 + 3, -1001, -1000, -999, -200, -199, -100, -6, -5, -4, -3, -2, -1}
	list = append(list, 1000, 1001, 1004, 1005, 1199, 5000, 9999, 1<<16+1, 1<<32, 1<<32+3, math.MaxInt/5, math.MaxInt/5+1, math.MaxInt/5+2, math.MaxInt-4, math.MaxInt-1, math.MaxInt)
	for _, product := range []uint64{1, 2, 4, 6, 497, 994, 996, 998, 999} {
		// 5 times this factor is 1 if it wraps around at 64 bits.
		list = append(list, int(product*0xCCCCCCCCCCCCCCCD))
	}
	return list
}

// checkTake holds TakeEntry against the document, and against the words of the promises where it succeeds.
func checkTake(t *testing.T, list []impl.Entry, e impl.Entry) {
	t.Helper()
	before, eBefore := deepLog(list), deepEntry(e)
	want, wantOk := wantTake(list, e)
	got, ok := impl.TakeEntry(list, e)
	if ok != wantOk || !sameLog(got, want) {
		t.Fatalf("TakeEntry(%v, %v) is %v, %v, not %v, %v", list, e, got, ok, want, wantOk)
	}
	if ok {
		checkTakeWords(t, list, e)
	}
	if !sameLog(list, before) || !sameEntry(e, eBefore) {
		t.Fatalf("TakeEntry of %v and %v makes them %v and %v", before, eBefore, list, e)
	}
}

// checkTakeWords holds TakeEntry that succeeds against the promises 77 and 78.
func checkTakeWords(t *testing.T, list []impl.Entry, e impl.Entry) {
	t.Helper()
	after, ok := impl.TakeEntry(list, e)
	if put, fine := impl.LogPut(list, e); !ok || !fine || !sameLog(after, put) || !impl.LogValid(after) {
		t.Fatalf("TakeEntry(%v, %v) is %v, %v, and LogPut %v, %v", list, e, after, ok, put, fine)
	}
	if again, fine := impl.TakeEntry(after, e); !fine || !sameLog(again, after) {
		t.Fatalf("behind TakeEntry(%v, %v), it is %v, %v again", list, e, again, fine)
	}
	for _, x := range otherBallots(e) {
		again, fine := impl.TakeEntry(after, x)
		if fine != (x.Ballot > e.Ballot) || !fine && len(again) != 0 {
			t.Fatalf("behind TakeEntry(%v, %v), that of %v is %v, %v", list, e, x, again, fine)
		}
		if found, _ := impl.LogFind(again, e.Id); fine && !sameEntry(found, x) {
			t.Fatalf("behind TakeEntry(%v, %v), that of %v has %v", list, e, x, found)
		}
	}
}

// checkFix holds FixEntry against the document, and against the words of the promises where it succeeds.
func checkFix(t *testing.T, list []impl.Entry, e impl.Entry) {
	t.Helper()
	before, eBefore := deepLog(list), deepEntry(e)
	want, wantOk := wantFix(list, e)
	got, ok := impl.FixEntry(list, e)
	if ok != wantOk || !sameLog(got, want) {
		t.Fatalf("FixEntry(%v, %v) is %v, %v, not %v, %v", list, e, got, ok, want, wantOk)
	}
	if ok {
		checkFixWords(t, list, e)
		checkFixedForever(t, got, e)
	}
	if !sameLog(list, before) || !sameEntry(e, eBefore) {
		t.Fatalf("FixEntry of %v and %v makes them %v and %v", before, eBefore, list, e)
	}
}

// checkFixWords holds FixEntry that succeeds against the promises 80 and 82.
func checkFixWords(t *testing.T, list []impl.Entry, e impl.Entry) {
	t.Helper()
	after, ok := impl.FixEntry(list, e)
	found, there := impl.LogFind(after, e.Id)
	if !ok || !impl.LogValid(after) || !there || found.Status != impl.StatusFixed || found.What != e.What || found.Seq != e.Seq || !slices.Equal(found.Deps, e.Deps) {
		t.Fatalf("FixEntry(%v, %v) is %v, %v, with %v, %v", list, e, after, ok, found, there)
	}
	ballot := e.Ballot
	if old, was := impl.LogFind(list, e.Id); was && old.Status == impl.StatusFixed {
		ballot = old.Ballot
	}
	if found.Ballot != ballot || !sameLog(without(after, e.Id), without(list, e.Id)) {
		t.Fatalf("FixEntry(%v, %v) is %v, with another ballot, or with other entries changed", list, e, after)
	}
}

// checkFixedForever holds a log in which FixEntry has fixed an entry against the promises 79, 81 and 83.
func checkFixedForever(t *testing.T, list []impl.Entry, e impl.Entry) {
	t.Helper()
	for _, x := range append(otherBallots(e), e) {
		if again, ok := impl.FixEntry(list, x); !ok || !sameLog(again, list) {
			t.Fatalf("FixEntry(%v, %v) is %v, %v", list, x, again, ok)
		}
		x.Status = impl.StatusTaken
		wantNoTake(t, list, x)
	}
	for _, x := range otherRanks(e) {
		wantNoFix(t, list, x)
	}
	other := asEntry(e.Id)
	other.Ballot = 999
	wantNoTake(t, list, other)
}

// checkBallots holds TakeEntry and FixEntry against the document, for the entry as it is and with each status.
func checkBallots(t *testing.T, list []impl.Entry, e impl.Entry) {
	t.Helper()
	for _, status := range []int{e.Status, impl.StatusSeen, impl.StatusTaken, impl.StatusFixed} {
		e.Status = status
		checkTake(t, list, e)
		checkFix(t, list, e)
	}
}

// wantNoTake checks that TakeEntry fails, with zero values.
func wantNoTake(t *testing.T, list []impl.Entry, e impl.Entry) {
	t.Helper()
	if got, ok := impl.TakeEntry(list, e); ok || len(got) != 0 {
		t.Fatalf("TakeEntry(%v, %v) is %v, %v", list, e, got, ok)
	}
}

// wantNoFix checks that FixEntry fails, with zero values.
func wantNoFix(t *testing.T, list []impl.Entry, e impl.Entry) {
	t.Helper()
	if got, ok := impl.FixEntry(list, e); ok || len(got) != 0 {
		t.Fatalf("FixEntry(%v, %v) is %v, %v", list, e, got, ok)
	}
}

// wantNeither checks that both fail for an entry, as it is and with each status.
func wantNeither(t *testing.T, list []impl.Entry, e impl.Entry) {
	t.Helper()
	for _, status := range []int{e.Status, impl.StatusSeen, impl.StatusTaken, impl.StatusFixed} {
		e.Status = status
		wantNoTake(t, list, e)
		wantNoFix(t, list, e)
	}
}

// madeOf returns the entry of a word with a ballot and a status.
func madeOf(word string, ballot, status int) impl.Entry {
	return changed(entryOf(word), func(e *impl.Entry) { e.Ballot, e.Status = ballot, status })
}

// madeLog returns the log of a text, where all entries have a ballot and a status.
func madeLog(text string, ballot, status int) []impl.Entry {
	list := []impl.Entry{}
	for _, word := range strings.Fields(text) {
		list = append(list, madeOf(word, ballot, status))
	}
	return list
}

// otherCommands lists copies of an entry where the kind, the key or the value of the command alone differs.
func otherCommands(e impl.Entry) []impl.Entry {
	var list []impl.Entry
	for _, c := range validCommands() {
		parts := []bool{c.Kind != e.What.Kind, c.Key != e.What.Key, c.Value != e.What.Value}
		if slices.Equal(parts, []bool{true, false, false}) || slices.Equal(parts, []bool{false, true, false}) || slices.Equal(parts, []bool{false, false, true}) {
			list = append(list, changed(e, func(x *impl.Entry) { x.What = c }))
		}
	}
	return list
}

// differing lists copies of an entry where one thing alone differs that two fixed entries with an id may not differ in.
func differing(e impl.Entry) []impl.Entry {
	return slices.Concat(otherCommands(e), otherRanks(e), otherDeps(e))
}

// fixtures lists valid entries of each kind, with no ids, some, and as many as there may be, with a ballot and a status.
func fixtures(ballot, status int) []impl.Entry {
	list := ownEntries()
	list = append(list, entryOf("f1p0-a"), entryOf("b99a0-az"))
	list[6].What.Value, list[7].What.Value = 0, 99
	for i := range list {
		list[i].Ballot, list[i].Status = ballot, status
	}
	return list
}

// The helpers themselves must see what the tests rely on.
func TestBallotHelpers(t *testing.T) {
	for round, replica := range []int{3, 0, 4, 2} {
		if got := wantBallot(round, replica); got != 5*round+replica {
			t.Errorf("wantBallot(%d, %d) is %d", round, replica, got)
		}
	}
	if wantBallot(200, 0) != -1 || wantBallot(-1, 0) != -1 || wantBallot(0, 5) != -1 || wantNext(7, 2) != 12 || wantNext(7, 3) != 8 || wantNext(998, 3) != -1 || wantNext(7, 5) != -1 {
		t.Errorf("wantBallot or wantNext is wrong")
	}
	for _, n := range farNumbers() {
		if n >= 0 && n <= 999 {
			t.Errorf("%d is not far outside", n)
		}
	}
	list := madeLog("b5p1 d4r1-b", 500, 2)
	if e := madeOf("d4r1-b", 500, 2); !wantLog(list) || !sameEntry(list[1], e) || e.Ballot != 500 || e.Status != 2 || e.Id != letter('d') || e.Seq != 4 {
		t.Errorf("madeLog is %v", list)
	}
	for _, e := range fixtures(7, 3) {
		for _, x := range differing(e) {
			if !wantEntry(x) || x.Id != e.Id || x.Ballot != 7 || x.Status != 3 || sameEntry(x, e) {
				t.Errorf("%v should differ from %v in one part", x, e)
			}
			if _, ok := wantFix([]impl.Entry{e}, x); ok {
				t.Errorf("%v should not be fixed where %v is", x, e)
			}
		}
		if e.Ballot != 7 || e.Status != 3 || !wantEntry(e) || len(otherCommands(e)) < 3 || len(otherRanks(e)) < 3 || len(otherDeps(e)) < 3 {
			t.Errorf("%v is not valid, or has too few that differ", e)
		}
	}
	taken, lesser := madeOf("d9p1-z", 500, 2), madeOf("d9p1-z", 499, 2)
	if got, ok := wantTake(list, taken); !ok || !sameLog(got, []impl.Entry{list[0], taken}) {
		t.Errorf("wantTake is %v, %v", got, ok)
	}
	if got, ok := wantTake(list, lesser); ok || len(got) != 0 {
		t.Errorf("wantTake of a lesser ballot is %v, %v", got, ok)
	}
	fixed := madeOf("d9p1-z", 3, 3)
	if got, ok := wantFix(list, fixed); !ok || !sameLog(got, []impl.Entry{list[0], fixed}) {
		t.Errorf("wantFix is %v, %v", got, ok)
	}
}

// Promise 74: all rounds and replicas in range, and those around.
func TestBallotOf(t *testing.T) {
	seen := map[int]bool{}
	for round := -20; round <= 1020; round++ {
		for replica := -12; replica <= 17; replica++ {
			got := impl.BallotOf(round, replica)
			if want := wantBallot(round, replica); got != want {
				t.Fatalf("BallotOf(%d, %d) is %d, not %d", round, replica, got, want)
			}
			if got != -1 && (got < 0 || got > impl.BallotMax || got%impl.ReplicasMax != replica || got/impl.ReplicasMax != round || seen[got]) {
				t.Fatalf("BallotOf(%d, %d) is %d", round, replica, got)
			}
			seen[got] = true
		}
	}
	if len(seen) != 1001 {
		t.Errorf("BallotOf has only %d results", len(seen))
	}
}

func TestBallotOfTable(t *testing.T) {
	for _, test := range []struct {
		name                 string
		round, replica, want int
	}{
		{"the first ballot", 0, 0, 0},
		{"the first round", 0, 4, 4},
		{"the second round", 1, 0, 5},
		{"any", 2, 3, 13},
		{"the last round of replica 0", 199, 0, 995},
		{"the last round of replica 1", 199, 1, 996},
		{"the last round of replica 2", 199, 2, 997},
		{"the last round of replica 3", 199, 3, 998},
		{"the last ballot", 199, 4, 999},
		{"one round too many of replica 0", 200, 0, -1},
		{"one round too many of replica 1", 200, 1, -1},
		{"one round too many of replica 2", 200, 2, -1},
		{"one round too many of replica 3", 200, 3, -1},
		{"one round too many of replica 4", 200, 4, -1},
		{"the round BallotMax", impl.BallotMax, 0, -1},
		{"the round BallotMax+1", impl.BallotMax + 1, 0, -1},
		{"the round -1", -1, 0, -1},
		{"the round -1, and the last replica", -1, 4, -1},
		{"the round -1, with a replica for which the sum is in range", -1, 5, -1},
		{"the round -1, with a replica far outside for which the sum is in range", -1, 12, -1},
		{"the replica -1", 0, -1, -1},
		{"the replica -1, where the sum is in range", 3, -1, -1},
		{"the replica -1, where the sum is the last ballot", 200, -1, -1},
		{"the replica ReplicasMax", 0, impl.ReplicasMax, -1},
		{"the replica ReplicasMax, where the sum is in range", 198, impl.ReplicasMax, -1},
		{"the replica ReplicasMax, where the sum is not in range", 199, impl.ReplicasMax, -1},
		{"a replica that is a ballot", 0, 999, -1},
		{"a round and a replica far outside, where the sum is in range", 1000, -4500, -1},
		{"both just below", -1, -1, -1},
		{"both just above", 1000, 5, -1},
	} {
		if got := impl.BallotOf(test.round, test.replica); got != test.want || wantBallot(test.round, test.replica) != test.want {
			t.Errorf("%s: BallotOf(%d, %d) is %d, not %d", test.name, test.round, test.replica, got, test.want)
		}
	}
}

// Far outside: each alone, with all that are fine, and both.
func TestBallotFarOutside(t *testing.T) {
	for _, far := range farNumbers() {
		for replica := -1; replica <= 5; replica++ {
			if of, next := impl.BallotOf(far, replica), impl.BallotNext(far, replica); of != -1 || next != -1 {
				t.Fatalf("BallotOf(%d, %d) is %d, and BallotNext %d", far, replica, of, next)
			}
		}
		for n := -1; n <= 1000; n++ {
			if of, next := impl.BallotOf(n, far), impl.BallotNext(n, far); of != -1 || next != -1 {
				t.Fatalf("BallotOf(%d, %d) is %d, and BallotNext %d", n, far, of, next)
			}
		}
		for _, other := range farNumbers() {
			if of, next := impl.BallotOf(far, other), impl.BallotNext(far, other); of != -1 || next != -1 {
				t.Fatalf("BallotOf(%d, %d) is %d, and BallotNext %d", far, other, of, next)
			}
		}
	}
}

// Promises 75 and 76: all ballots and replicas in range, and those around.
func TestBallotNext(t *testing.T) {
	for ballot := -20; ballot <= 1020; ballot++ {
		for replica := -12; replica <= 17; replica++ {
			got := impl.BallotNext(ballot, replica)
			if want := wantNext(ballot, replica); got != want {
				t.Fatalf("BallotNext(%d, %d) is %d, not %d", ballot, replica, got, want)
			}
			if got == -1 {
				continue
			}
			if got <= ballot || got%impl.ReplicasMax != replica || got > ballot+impl.ReplicasMax || got > impl.BallotMax {
				t.Fatalf("BallotNext(%d, %d) is %d", ballot, replica, got)
			}
			for other := range impl.ReplicasMax {
				if other != replica && impl.BallotNext(ballot, other) == got {
					t.Fatalf("BallotNext(%d, %d) is %d, and for %d too", ballot, replica, got, other)
				}
			}
		}
	}
}

func TestBallotNextTable(t *testing.T) {
	for _, test := range []struct {
		name   string
		ballot int
		want   [5]int
	}{
		{"the first ballot", 0, [5]int{5, 1, 2, 3, 4}},
		{"the same round has greater and lesser replicas", 2, [5]int{5, 6, 7, 3, 4}},
		{"the last one of the first round", 4, [5]int{5, 6, 7, 8, 9}},
		{"the first one of the second round", 5, [5]int{10, 6, 7, 8, 9}},
		{"any", 13, [5]int{15, 16, 17, 18, 14}},
		{"the last one but six", 993, [5]int{995, 996, 997, 998, 994}},
		{"the last one of the last round but one", 994, [5]int{995, 996, 997, 998, 999}},
		{"the first one of the last round", 995, [5]int{-1, 996, 997, 998, 999}},
		{"the second one of the last round", 996, [5]int{-1, -1, 997, 998, 999}},
		{"the third one of the last round", 997, [5]int{-1, -1, -1, 998, 999}},
		{"the last one but one", 998, [5]int{-1, -1, -1, -1, 999}},
		{"the last ballot", 999, [5]int{-1, -1, -1, -1, -1}},
		{"BallotMax+1", 1000, [5]int{-1, -1, -1, -1, -1}},
		{"the ballot -1", -1, [5]int{-1, -1, -1, -1, -1}},
		{"the ballot -5", -5, [5]int{-1, -1, -1, -1, -1}},
	} {
		for replica, want := range test.want {
			if got := impl.BallotNext(test.ballot, replica); got != want {
				t.Errorf("%s: BallotNext of %d is %d, not %d", test.name, replica, got, want)
			}
		}
		if below, above := impl.BallotNext(test.ballot, -1), impl.BallotNext(test.ballot, impl.ReplicasMax); below != -1 || above != -1 {
			t.Errorf("%s: BallotNext of replicas that are none is %d and %d", test.name, below, above)
		}
	}
}

// One after the other, the ballots of a replica are those of all rounds.
func TestBallotNextRounds(t *testing.T) {
	for replica := range impl.ReplicasMax {
		ballot := impl.BallotOf(0, replica)
		for round := range 200 {
			if ballot != impl.BallotOf(round, replica) || ballot != 5*round+replica {
				t.Fatalf("the ballot of round %d of %d is %d", round, replica, ballot)
			}
			ballot = impl.BallotNext(ballot, replica)
		}
		if ballot != -1 {
			t.Errorf("behind the last round of %d is %d", replica, ballot)
		}
	}
}

// An empty log, nil and empty, has no id; whatever is valid fits.
func TestBallotsNone(t *testing.T) {
	for _, list := range [][]impl.Entry{nil, {}, make([]impl.Entry, 0, 20), logOf("a1p1 b2p1")[:0]} {
		for _, ballot := range []int{0, 1, 500, 999} {
			for _, e := range fixtures(ballot, impl.StatusTaken) {
				fixed := changed(e, func(x *impl.Entry) { x.Status = impl.StatusFixed })
				if got, ok := impl.TakeEntry(list, e); !ok || !sameLog(got, []impl.Entry{e}) {
					t.Fatalf("TakeEntry of %v alone is %v, %v", e, got, ok)
				}
				if got, ok := impl.FixEntry(list, fixed); !ok || !sameLog(got, []impl.Entry{fixed}) {
					t.Fatalf("FixEntry of %v alone is %v, %v", fixed, got, ok)
				}
				wantNoTake(t, list, fixed)
				wantNoFix(t, list, e)
				checkBallots(t, list, e)
			}
		}
	}
	for _, a := range validIds() {
		checkBallots(t, nil, impl.Entry{Id: a, Status: 1, What: none(), Seq: 1})
	}
	for _, c := range validCommands() {
		checkBallots(t, nil, impl.Entry{Id: letter('c'), Status: 1, What: c, Seq: 99, Deps: lettersOf("ad")})
	}
}

// An entry whose id the log has not, ahead of all, between two and behind all, whatever the ballots and the statuses of the others are.
func TestBallotsNewId(t *testing.T) {
	full := "b1p1 d2p1 f3p1 h4p1 j5p1 l6p1 n7p1 p8p1 r9p1 t10p1 v11p1"
	for _, test := range []struct{ name, list, e, want string }{
		{"ahead of one", "d4r1", "c5p1", "c5p1 d4r1"},
		{"behind one", "d4r1", "e5p1", "d4r1 e5p1"},
		{"ahead of all", "d4r1 f3a2-d h2n", "a1n", "a1n d4r1 f3a2-d h2n"},
		{"between the first ones", "d4r1 f3a2-d h2n", "e1n", "d4r1 e1n f3a2-d h2n"},
		{"between the last ones", "d4r1 f3a2-d h2n", "g1n-d", "d4r1 f3a2-d g1n-d h2n"},
		{"behind all", "d4r1 f3a2-d h2n", "z1n", "d4r1 f3a2-d h2n z1n"},
		{"with attributes that another entry has", "d4r1-ab h2n", "e4r1-ab", "d4r1-ab e4r1-ab h2n"},
		{"what clashes is not looked for", "d99p1 h99p1", "e1p1", "d99p1 e1p1 h99p1"},
		{"as the last one that has room, ahead", full, "a1n", "a1n " + full},
		{"as the last one that has room, between", full, "e1n", "b1p1 d2p1 e1n" + full[9:]},
		{"as the last one that has room, behind", full, "z1n", full + " z1n"},
		{"a full log, ahead", full + " x12p1", "a1n", ""},
		{"a full log, between", full + " x12p1", "m1n", ""},
		{"a full log, behind", full + " x12p1", "z1n", ""},
	} {
		for _, ballot := range []int{0, 499, 500, 501, 999} {
			for status := 1; status <= 3; status++ {
				list, taken, fixed := madeLog(test.list, 500, status), madeOf(test.e, ballot, impl.StatusTaken), madeOf(test.e, ballot, impl.StatusFixed)
				want := madeLog(test.want, 500, status)
				place := slices.Index(idsOfLog(want), taken.Id)
				if place >= 0 {
					want[place] = taken
				}
				if got, ok := impl.TakeEntry(list, taken); ok != (place >= 0) || !sameLog(got, want) {
					t.Fatalf("%s: TakeEntry(%v, %v) is %v, %v", test.name, list, taken, got, ok)
				}
				if place >= 0 {
					want[place] = fixed
				}
				if got, ok := impl.FixEntry(list, fixed); ok != (place >= 0) || !sameLog(got, want) {
					t.Fatalf("%s: FixEntry(%v, %v) is %v, %v", test.name, list, fixed, got, ok)
				}
				checkBallots(t, list, taken)
			}
		}
	}
}

// ballotsAround lists ballots around one: of the same round and of others, and at the limits.
func ballotsAround(ballot int) []int {
	var list []int
	for _, other := range []int{0, 1, ballot - 6, ballot - 5, ballot - 2, ballot - 1, ballot, ballot + 1, ballot + 2, ballot + 5, ballot + 6, 998, 999} {
		if other >= 0 && other <= 999 {
			list = append(list, other)
		}
	}
	return list
}

// thereLogs lists logs that have entries with ids to take and to fix at each place, up to full ones.
func thereLogs() []string {
	return []string{"d5p1", "d5p1-a f3r2", "a9p1 d5p1-a f3r2-dx z1n", "b1p1 d2p1 f3p1 h4p1 j5p1 l6p1 n7p1 p8p1 r9p1 t10p1 v11p1 x12p1-abcdefghijkl"}
}

// The log has the id: TakeEntry succeeds exactly if it is not fixed there, with no greater ballot, and FixEntry whatever the ballot is.
func TestBallotsThere(t *testing.T) {
	for _, text := range thereLogs() {
		for place := range logOf(text) {
			for status := 1; status <= 3; status++ {
				for _, old := range []int{0, 2, 13, 500, 999} {
					// The other entries have other statuses, and lesser and greater ballots.
					list := logOf(text)
					list[place].Ballot, list[place].Status = old, status
					for _, ballot := range ballotsAround(old) {
						checkThere(t, list, place, ballot)
					}
				}
			}
		}
	}
}

// checkThere takes and fixes entries instead of one of a log, with a ballot: the same one, and one of which all differs.
func checkThere(t *testing.T, list []impl.Entry, place, ballot int) {
	t.Helper()
	old := list[place]
	same, other := deepEntry(old), asEntry(old.Id)
	for _, e := range []impl.Entry{same, other} {
		e.Ballot, e.Status = ballot, impl.StatusTaken
		want := deepLog(list)
		want[place] = e
		got, ok := impl.TakeEntry(list, e)
		if fits := old.Status != impl.StatusFixed && ballot >= old.Ballot; ok != fits || ok && !sameLog(got, want) || !ok && len(got) != 0 {
			t.Fatalf("TakeEntry(%v, %v) is %v, %v", list, e, got, ok)
		}
		e.Status = impl.StatusFixed
		want[place] = e
		got, ok = impl.FixEntry(list, e)
		if old.Status == impl.StatusFixed {
			// The log's own ballot stays, too.
			want[place] = old
		}
		if fits := old.Status != impl.StatusFixed || e.What == old.What; ok != fits || ok && !sameLog(got, want) || !ok && len(got) != 0 {
			t.Fatalf("FixEntry(%v, %v) is %v, %v", list, e, got, ok)
		}
		checkBallots(t, list, e)
	}
}

// Each ballot against some ballots of the log, with each status there.
func TestBallotsEach(t *testing.T) {
	for _, old := range []int{0, 4, 5, 498, 995, 999} {
		for ballot := range 1000 {
			for status := 1; status <= 3; status++ {
				list := madeLog("a9p1 d2p1-a g7a1-a", 500, impl.StatusTaken)
				list[1].Ballot, list[1].Status = old, status
				taken, fixed := madeOf("d2p1-a", ballot, impl.StatusTaken), madeOf("d2p1-a", ballot, impl.StatusFixed)
				got, ok := impl.TakeEntry(list, taken)
				if ok != (status != impl.StatusFixed && ballot >= old) || ok && !sameEntry(got[1], taken) {
					t.Fatalf("TakeEntry(%v, %v) is %v, %v", list, taken, got, ok)
				}
				want := fixed
				if status == impl.StatusFixed {
					want = list[1]
				}
				if got, ok := impl.FixEntry(list, fixed); !ok || !sameLog(got, []impl.Entry{list[0], want, list[2]}) {
					t.Fatalf("FixEntry(%v, %v) is %v, %v", list, fixed, got, ok)
				}
			}
		}
	}
}

// The same entry again: with the same ballot it changes nothing, with a lesser one it comes too late, and with a greater one it is put.
func TestTakeAgain(t *testing.T) {
	for _, ballot := range []int{0, 1, 6, 500, 999} {
		for _, e := range fixtures(ballot, impl.StatusTaken) {
			for _, around := range []string{"", "a1p1 z9p1", "a1p1 c1n d1n e1n g1n h1n i1n j1n k1n x1n y1n"} {
				list := without(logOf(around), e.Id)
				first, ok := impl.TakeEntry(list, e)
				again, fine := impl.TakeEntry(first, e)
				if !ok || !fine || !sameLog(again, first) {
					t.Fatalf("TakeEntry(%v, %v) is %v, %v, and again %v, %v", list, e, first, ok, again, fine)
				}
				for _, x := range otherBallots(e) {
					got, late := impl.TakeEntry(first, x)
					if want, _ := impl.LogPut(first, x); late != (x.Ballot > ballot) || late && !sameLog(got, want) || !late && len(got) != 0 {
						t.Fatalf("TakeEntry(%v, %v) is %v, %v", first, x, got, late)
					}
				}
			}
		}
	}
}

// What is taken with the same ballot, or a greater one, may be another command, with other attributes; what is fixed already may not.
func TestTakeAnother(t *testing.T) {
	for _, e := range fixtures(500, impl.StatusTaken) {
		for _, x := range differing(e) {
			for _, status := range []int{impl.StatusSeen, impl.StatusTaken} {
				list := []impl.Entry{changed(e, func(old *impl.Entry) { old.Status = status })}
				for _, ballot := range []int{500, 501, 999} {
					x.Ballot = ballot
					if got, ok := impl.TakeEntry(list, x); !ok || !sameLog(got, []impl.Entry{x}) {
						t.Fatalf("TakeEntry(%v, %v) is %v, %v", list, x, got, ok)
					}
				}
				x.Ballot = 499
				wantNoTake(t, list, x)
			}
			fixed := []impl.Entry{changed(e, func(old *impl.Entry) { old.Status = impl.StatusFixed })}
			for _, ballot := range []int{0, 499, 500, 501, 999} {
				x.Ballot = ballot
				wantNoTake(t, fixed, x)
				wantNoTake(t, fixed, changed(e, func(same *impl.Entry) { same.Ballot = ballot }))
			}
		}
	}
}

// What is fixed already with the same command, rank and ids stays as it is, at each place of a log, whatever the ballots are.
func TestFixSame(t *testing.T) {
	for _, e := range fixtures(500, impl.StatusFixed) {
		for _, around := range []string{"", "a1p1 z9p1", "a1p1 c1n d1n e1n g1n h1n i1n j1n k1n x1n y1n"} {
			list, ok := impl.LogPut(without(logOf(around), e.Id), e)
			if !ok {
				t.Fatalf("%v does not fit", e)
			}
			for ballot := range 1000 {
				x := changed(e, func(x *impl.Entry) { x.Ballot = ballot })
				if got, fine := impl.FixEntry(list, x); !fine || !sameLog(got, list) {
					t.Fatalf("FixEntry(%v, %v) is %v, %v", list, x, got, fine)
				}
			}
			checkBallots(t, list, e)
		}
	}
}

// What is fixed already with one thing that differs fails, whatever the ballots are; where it is not fixed, it is fixed so.
func TestFixOtherwise(t *testing.T) {
	for _, e := range fixtures(500, impl.StatusFixed) {
		for _, around := range []string{"", "a1p1 z9p1", "a1p1 c1n d1n e1n g1n h1n i1n j1n k1n x1n y1n"} {
			list, _ := impl.LogPut(without(logOf(around), e.Id), e)
			place := slices.Index(idsOfLog(list), e.Id)
			for _, x := range differing(e) {
				for _, ballot := range []int{0, 499, 500, 501, 999} {
					x.Ballot = ballot
					wantNoFix(t, list, x)
					for _, status := range []int{impl.StatusSeen, impl.StatusTaken} {
						open := deepLog(list)
						open[place].Status = status
						want := deepLog(open)
						want[place] = x
						if got, ok := impl.FixEntry(open, x); !ok || !sameLog(got, want) {
							t.Fatalf("FixEntry(%v, %v) is %v, %v", open, x, got, ok)
						}
					}
				}
			}
		}
	}
}

func TestFixOtherwiseTable(t *testing.T) {
	base := impl.Entry{Id: letter('m'), Ballot: 7, Status: 3, What: put(1, 5), Seq: 4, Deps: lettersOf("beh")}
	for _, test := range []struct {
		name   string
		change func(*impl.Entry)
		want   bool
	}{
		{"the same", func(*impl.Entry) {}, true},
		{"a lesser ballot", func(e *impl.Entry) { e.Ballot = 6 }, true},
		{"a greater ballot", func(e *impl.Entry) { e.Ballot = 8 }, true},
		{"another kind", func(e *impl.Entry) { e.What = add(1, 5) }, false},
		{"another key", func(e *impl.Entry) { e.What = put(2, 5) }, false},
		{"a lesser value", func(e *impl.Entry) { e.What = put(1, 4) }, false},
		{"a greater value", func(e *impl.Entry) { e.What = put(1, 6) }, false},
		{"nothing to do", func(e *impl.Entry) { e.What = none() }, false},
		{"a lesser rank", func(e *impl.Entry) { e.Seq = 3 }, false},
		{"a greater rank", func(e *impl.Entry) { e.Seq = 5 }, false},
		{"without the first id", func(e *impl.Entry) { e.Deps = lettersOf("eh") }, false},
		{"without the last id", func(e *impl.Entry) { e.Deps = lettersOf("be") }, false},
		{"without an id between", func(e *impl.Entry) { e.Deps = lettersOf("bh") }, false},
		{"without ids", func(e *impl.Entry) { e.Deps = nil }, false},
		{"with one id more, ahead", func(e *impl.Entry) { e.Deps = lettersOf("abeh") }, false},
		{"with one id more, between", func(e *impl.Entry) { e.Deps = lettersOf("bceh") }, false},
		{"with one id more, behind", func(e *impl.Entry) { e.Deps = lettersOf("behz") }, false},
		{"with another first id", func(e *impl.Entry) { e.Deps = lettersOf("aeh") }, false},
		{"with another last id", func(e *impl.Entry) { e.Deps = lettersOf("bez") }, false},
		{"with other ids alone", func(e *impl.Entry) { e.Deps = lettersOf("cfi") }, false},
		{"a greater ballot, and a greater rank", func(e *impl.Entry) { e.Ballot, e.Seq = 999, 5 }, false},
	} {
		for _, text := range []string{"", "a1p1 z1p1", "b1p1 d2p1 f3p1 h4p1 j5p1 l6p1 n7p1 p8p1 r9p1 t10p1 v11p1"} {
			list, _ := impl.LogPut(logOf(text), base)
			e := changed(base, test.change)
			got, ok := impl.FixEntry(list, e)
			if ok != test.want || ok && !sameLog(got, list) || !ok && len(got) != 0 {
				t.Errorf("%s: FixEntry(%v, %v) is %v, %v", test.name, list, e, got, ok)
			}
			checkBallots(t, list, e)
		}
	}
}

// No ids, nil and empty, are the same ids.
func TestFixNoIds(t *testing.T) {
	for _, deps := range [][]impl.Id{nil, {}, make([]impl.Id, 0, 5), lettersOf("ab")[:0]} {
		for _, others := range [][]impl.Id{nil, {}, make([]impl.Id, 0, 5), lettersOf("ab")[:0]} {
			list := []impl.Entry{{Id: letter('m'), Ballot: 4, Status: 3, What: read(2), Seq: 2, Deps: deps}}
			e := impl.Entry{Id: letter('m'), Ballot: 9, Status: 3, What: read(2), Seq: 2, Deps: others}
			if got, ok := impl.FixEntry(list, e); !ok || !sameLog(got, list) {
				t.Fatalf("FixEntry(%v, %v) is %v, %v", list, e, got, ok)
			}
		}
	}
}

// A log that is invalid in one part alone at each place, and an entry that is, also where it would stand instead of what is invalid.
func TestBallotsInvalidEntry(t *testing.T) {
	for _, text := range []string{"d5p1", "d1r0 e2n-d", "a1p1 d2p1-a g3a1-ad x4r1-ade y5p1-adex", "a1p1 b1p1 c1p1 d1p1 e1p1 f1p1 g1p1 h1p1 i1p1 j1p1 k1p1"} {
		for status := 1; status <= 3; status++ {
			list := madeLog(text, 500, status)
			for i, e := range list {
				for name, bad := range spoiledEntries(e) {
					with := deepLog(list)
					with[i] = bad
					if wantLog(with) || wantEntry(bad) && bad.Status == e.Status {
						t.Fatalf("%s: %v should be invalid", name, with)
					}
					wantInvalidLog(t, with)
					if bad.Status == e.Status {
						wantNeither(t, list, bad)
						wantNeither(t, without(list, e.Id), bad)
						wantNeither(t, nil, bad)
					} else {
						wantNoTake(t, list, bad)
						wantNoFix(t, list, bad)
					}
				}
			}
		}
	}
}

// wantInvalidLog checks that both fail for a log that is invalid, for what it has, and for what would fit otherwise.
func wantInvalidLog(t *testing.T, list []impl.Entry) {
	t.Helper()
	for _, e := range list[:min(len(list), 14)] {
		wantNeither(t, list, e)
		wantNeither(t, list, asEntry(e.Id))
	}
	for _, a := range []impl.Id{id(0, 1), id(2, 33), id(4, 50), {}} {
		wantNeither(t, list, asEntry(a))
		wantNeither(t, list, impl.Entry{Id: a, Ballot: 999, Status: 2, What: none(), Seq: 1})
	}
}

// Entries that are not in order, ids twice, and too many.
func TestBallotsInvalidLog(t *testing.T) {
	for _, text := range []string{"b1n a1n", "a1n a1n", "a1n a2n", "a1n b1n a1n", "a1n b1n b1n", "a1n c1n b1n d1n", "f1p1 a1p1", "z1n a1n", "a0n", "a100n", "a1n-a", "a1n-cb b1n", "a1n b1p9"} {
		for status := 1; status <= 3; status++ {
			wantInvalidLog(t, madeLog(text, 0, status))
			wantInvalidLog(t, madeLog(text, 999, status))
		}
	}
	for _, list := range listsOfLogs() {
		if len(list) > 1 {
			backwards := deepLog(list)
			slices.Reverse(backwards)
			wantInvalidLog(t, backwards)
			twice := append(deepLog(list), list[len(list)-1])
			wantInvalidLog(t, twice)
		}
	}
	wantInvalidLog(t, alike(validIds()[:13], none(), 1))
	wantInvalidLog(t, alike(validIds()[30:43], put(1, 1), 3))
	wantInvalidLog(t, alike(validIds(), add(1, 1), 3))
	wantInvalidLog(t, make([]impl.Entry, 1))
	wantInvalidLog(t, slices.Repeat(alike(validIds(), add(1, 1), 1), 100))
	fixed := alike(validIds()[:13], none(), 1)
	for i := range fixed {
		fixed[i].Status = impl.StatusFixed
	}
	wantInvalidLog(t, fixed)
}

// Invalid ids and commands of an entry, of which there are many.
func TestBallotsInvalidParts(t *testing.T) {
	for _, list := range [][]impl.Entry{nil, madeLog("a1p1 d2p1-a", 500, impl.StatusFixed)} {
		for _, a := range invalidIds() {
			wantNeither(t, list, impl.Entry{Id: a, Ballot: 999, Status: 2, What: none(), Seq: 1})
		}
		for _, c := range invalidCommands() {
			wantNeither(t, list, impl.Entry{Id: letter('c'), Ballot: 999, Status: 2, What: c, Seq: 1})
			wantNeither(t, list, impl.Entry{Id: letter('a'), Ballot: 999, Status: 2, What: c, Seq: 1})
		}
		for _, ballot := range farNumbers() {
			wantNeither(t, list, madeOf("c1p1", ballot, 2))
			wantNeither(t, list, madeOf("a1p1", ballot, 2))
		}
		for status := -10; status <= 260; status++ {
			if status != impl.StatusTaken {
				wantNoTake(t, list, madeOf("c1p1", 999, status))
				wantNoTake(t, nil, madeOf("a1p1", 999, status))
			}
			if status != impl.StatusFixed {
				wantNoFix(t, list, madeOf("c1p1", 999, status))
				wantNoFix(t, list, madeOf("a1p1", 999, status))
			}
		}
	}
}

// ballotOffers lists entries to take and to fix into a log: with the ids of its entries and with others, in ballots around theirs.
func ballotOffers(random *rand.Rand, list []impl.Entry) []impl.Entry {
	offers := []impl.Entry{madeOf("a1p1", 0, 2), madeOf("z99n", 999, 3), madeOf("m5r1-abc", 7, 2), asEntry(id(2, 2)), asEntry(id(0, 1)), asEntry(id(4, 50)), {}, {Id: id(5, 5), Deps: lettersOf("ab")}}
	for _, e := range list {
		for _, ballot := range []int{e.Ballot - 5, e.Ballot - 1, e.Ballot, e.Ballot + 1} {
			same, other := deepEntry(e), someEntry(random, e.Id, 99)
			same.Ballot, other.Ballot = ballot, ballot
			offers = append(offers, same, other)
		}
		offers = append(offers, asEntry(e.Id), someEntry(random, id(e.Id.Replica, e.Id.Number%50+1), 99))
	}
	return offers
}

// Promises 77 to 83: entries of all kinds into logs of each kind.
func TestTakeAndFix(t *testing.T) {
	random := rand.New(rand.NewSource(77))
	for _, list := range append(listsOfLogs(), someLogs(77, 6)...) {
		for _, e := range ballotOffers(random, list) {
			checkBallots(t, list, e)
		}
	}
}

// Replicas take and fix what others do, in ballots that rise: what is fixed once stays so.
func TestTakeAndFixOften(t *testing.T) {
	random := rand.New(rand.NewSource(79))
	for range 150 {
		var list []impl.Entry
		fixed := map[impl.Id]impl.Entry{}
		ids := someIds(random, 4)
		for range 40 {
			e := someEntry(random, ids[random.Intn(len(ids))], 3)
			e.Deps = e.Deps[:min(len(e.Deps), random.Intn(2))]
			e.Ballot, e.Status = impl.BallotNext(random.Intn(30), random.Intn(5)), 1+random.Intn(3)
			if old, there := fixed[e.Id]; there && random.Intn(2) == 0 {
				old.Ballot, old.Status = e.Ballot, e.Status
				e = old
			}
			checkTake(t, list, e)
			checkFix(t, list, e)
			if after, ok := impl.TakeEntry(list, e); ok {
				list = after
			}
			if after, ok := impl.FixEntry(list, e); ok {
				list = after
				if _, there := fixed[e.Id]; !there {
					fixed[e.Id] = e
				}
			}
			for a, want := range fixed {
				if got, there := impl.LogFind(list, a); !there || !sameEntry(got, want) {
					t.Fatalf("%v was fixed, and %v has %v, %v", want, list, got, there)
				}
			}
		}
	}
}

// ballotResults lists the results of both functions for a log and some entries.
func ballotResults(list, puts []impl.Entry) [][]impl.Entry {
	var results [][]impl.Entry
	for _, e := range puts {
		for _, status := range []int{impl.StatusTaken, impl.StatusFixed} {
			e.Status = status
			taken, _ := impl.TakeEntry(list, e)
			fixed, _ := impl.FixEntry(list, e)
			results = append(results, taken[:cap(taken)], fixed[:cap(fixed)])
		}
	}
	return results
}

// Also for logs that are invalid, where a function fails, and where a log stays as it is.
func TestBallotMemory(t *testing.T) {
	random := rand.New(rand.NewSource(80))
	lists := append(listsOfLogs(), logOf("b1n a1n"), logOf("a1n-a b1n"), logOf("a0n-b b1n"), alike(validIds()[:13], none(), 1))
	for status := 1; status <= 3; status++ {
		lists = append(lists, madeLog("a5p1-bx d3r1-a g7a1-ad x4n-a", 500, status), madeLog("b1p1-a", 0, status))
	}
	for _, list := range lists {
		// What the log has fixed already is given in again, too.
		offers := append(deepLog(list), asEntry(id(0, 1)), madeOf("m5r1-abc", 7, 2), impl.Entry{Id: id(5, 5), Deps: lettersOf("ab")})
		for _, e := range list {
			offers = append(offers, someEntry(random, e.Id, 99))
		}
		checkLogMemory(t, list, offers, ballotResults)
	}
}

// Entries of a log, and the one given in, may depend on the same memory, or on parts of it that overlap.
func TestBallotOneMemory(t *testing.T) {
	deps, whole := roomy(lettersOf("abcd"))
	list := []impl.Entry{
		{Id: letter('e'), Ballot: 5, Status: 1, What: put(1, 1), Seq: 1, Deps: deps},
		{Id: letter('f'), Ballot: 5, Status: 2, What: put(1, 2), Seq: 2, Deps: deps[1:3]},
		{Id: letter('g'), Ballot: 5, Status: 3, What: put(1, 3), Seq: 3, Deps: deps[:0]},
		{Id: letter('h'), Ballot: 5, Status: 3, What: read(1), Seq: 4, Deps: deps[2:]},
	}
	before, idsBefore := deepLog(list), slices.Clone(whole)
	for _, e := range append(slices.Clone(list), impl.Entry{Id: letter('m'), Ballot: 2, Status: 2, What: none(), Seq: 9, Deps: deps}) {
		results := ballotResults(list, []impl.Entry{e})
		e.Status = impl.StatusTaken
		taken, _ := wantTake(before, deepEntry(e))
		e.Status = impl.StatusFixed
		fixed, _ := wantFix(before, deepEntry(e))
		want := deepLogs([][]impl.Entry{taken, nil, nil, fixed})
		if !sameLogs(results, want) || sharing(whole, results) {
			t.Fatalf("behind %v and %v, the results are %v, or share what is given", list, e, results)
		}
		for i, result := range results {
			if len(result) > 0 {
				spoilLog(result[:1:1])
				if !sameLog(result[1:], want[i][1:]) {
					t.Fatalf("behind %v and %v, one entry of the result changes another one", list, e)
				}
			}
			spoilLog(result)
			if !sameLog(list, before) || !slices.Equal(whole, idsBefore) || !sameLogs(results[i+1:], want[i+1:]) {
				t.Fatalf("behind %v and %v, a result changes an argument or another result", list, e)
			}
		}
	}
}

// The same call gives the same result, however often it is made.
func TestBallotAgain(t *testing.T) {
	random := rand.New(rand.NewSource(81))
	for _, list := range append(someLogs(81, 1), madeLog("a9p1-x b8r1 c7a1 d6p1 e5r1 f4a1", 5, 3)) {
		puts := ballotOffers(random, list)
		want := ballotResults(list, puts)
		for range 10 {
			if got := ballotResults(list, puts); !sameLogs(got, want) {
				t.Fatalf("a function of %v returns different results", list)
			}
		}
	}
	for ballot := -1; ballot <= 1000; ballot++ {
		for replica := -1; replica <= 5; replica++ {
			of, next := impl.BallotOf(ballot, replica), impl.BallotNext(ballot, replica)
			if impl.BallotOf(ballot, replica) != of || impl.BallotNext(ballot, replica) != next {
				t.Errorf("a ballot of %d and %d differs from time to time", ballot, replica)
			}
		}
	}
}

func FuzzBallots(f *testing.F) {
	f.Add([]byte{}, false, 0, 0)
	f.Add([]byte{14, 6, 6, 9, 2, 15, 6, 7, 200, 1, 30, 99, 5, 3, 0}, true, 1, 4)
	f.Add([]byte{42, 1, 0, 4, 0, 42, 1, 0, 5, 0}, false, 199, 4)
	f.Add([]byte{28, 1, 6, 4, 1, 43, 1, 6, 4, 1, 28, 2, 6, 3, 9}, true, 998, 3)
	f.Add([]byte{44, 98, 6, 4, 1, 45, 98, 6, 4, 1, 44, 98, 6, 9, 1, 45, 97, 6, 4, 1}, true, math.MaxInt, 5)
	f.Fuzz(func(t *testing.T, bytes []byte, sort bool, round, replica int) {
		if got := impl.BallotOf(round, replica); got != wantBallot(round, replica) {
			t.Fatalf("BallotOf(%d, %d) is %d", round, replica, got)
		}
		if got := impl.BallotNext(round, replica); got != wantNext(round, replica) {
			t.Fatalf("BallotNext(%d, %d) is %d", round, replica, got)
		}
		// Of all entries, the last few are given in; far more than LogMax others would only take long.
		all := entriesOfBytes(bytes[:min(100, len(bytes))])
		list, offers := all[:len(all)*2/3], all[len(all)*2/3:]
		if sort {
			slices.SortFunc(list, func(x, y impl.Entry) int { return places[x.Id] - places[y.Id] })
			list = slices.CompactFunc(list, func(x, y impl.Entry) bool { return x.Id == y.Id })
		}
		for _, e := range slices.Concat(list, offers) {
			checkBallots(t, list, e)
			checkBallots(t, nil, e)
			e.Ballot = round
			checkBallots(t, list, e)
		}
		checkLogMemory(t, list, offers, ballotResults)
	})
}
