package tests

import (
	"math"
	"math/rand"
	"slices"
	"strings"
	"testing"

	"loop.example/leaderlesslog/impl"
)

// wantNumber returns what NextNumber has to return, by trying all numbers.
func wantNumber(list []impl.Entry, replica int) int {
	if !wantLog(list) || replica < 0 || replica > 4 {
		return -1
	}
	for number := 50; number > 0; number-- {
		if slices.Contains(idsOfLog(list), id(replica, number)) {
			if number == 50 {
				return -1
			}
			return number + 1
		}
	}
	return 1
}

// wantPropose returns what Propose has to return, by the words of the document.
func wantPropose(list []impl.Entry, replica int, c impl.Command) ([]impl.Entry, impl.Entry, bool) {
	a := id(replica, wantNumber(list, replica))
	rank, deps, ok := wantAttrs(list, a, c)
	if a.Number < 0 || !ok {
		return nil, impl.Entry{}, false
	}
	e := impl.Entry{Id: a, Ballot: 0, Status: 1, What: c, Seq: rank, Deps: deps}
	after, ok := wantPut(list, e)
	if !ok {
		return nil, impl.Entry{}, false
	}
	return after, e, true
}

// wantPreAccept returns what PreAccept has to return, by the words of the document.
func wantPreAccept(list []impl.Entry, e impl.Entry) ([]impl.Entry, impl.Entry, bool) {
	if !wantLog(list) || !wantEntry(e) || e.Status != 1 {
		return nil, impl.Entry{}, false
	}
	if old, there := wantFind(list, e.Id); there && (old.Ballot > e.Ballot || old.Status != 1) {
		return nil, impl.Entry{}, false
	}
	rank, deps, rankOk := wantAttrs(list, e.Id, e.What)
	both, bothOk := wantJoin(e.Deps, deps)
	with := impl.Entry{Id: e.Id, Ballot: e.Ballot, Status: 1, What: e.What, Seq: max(e.Seq, rank), Deps: both}
	after, putOk := wantPut(list, with)
	if !rankOk || !bothOk || !putOk {
		return nil, impl.Entry{}, false
	}
	return after, with, true
}

// edgeReplicas lists replicas at and beyond the limits.
func edgeReplicas() []int {
	return []int{math.MinInt, -1 << 32, -5, -1, 0, 1, 2, 3, 4, 5, 6, 9, 50, 1 << 8, 1 << 32, 1<<32 + 1, math.MaxInt}
}

// checkNumber holds NextNumber against the document, and against the words of promise 55.
func checkNumber(t *testing.T, list []impl.Entry, replica int) {
	t.Helper()
	number := impl.NextNumber(list, replica)
	if want := wantNumber(list, replica); number != want {
		t.Fatalf("NextNumber(%v, %d) is %d, not %d", list, replica, number, want)
	}
	reason := number == 1 || number == -1
	for _, e := range list {
		if number != -1 && e.Id.Replica == replica && e.Id.Number >= number {
			t.Fatalf("NextNumber(%v, %d) is %d, in spite of %v", list, replica, number, e)
		}
		reason = reason || e.Id == id(replica, number-1)
	}
	if !reason {
		t.Fatalf("NextNumber(%v, %d) is %d", list, replica, number)
	}
}

// checkPropose holds Propose against the document, and against the words of the promises where it succeeds.
func checkPropose(t *testing.T, list []impl.Entry, replica int, c impl.Command) {
	t.Helper()
	before := deepLog(list)
	want, wantE, wantOk := wantPropose(list, replica, c)
	after, e, ok := impl.Propose(list, replica, c)
	if ok != wantOk || !sameEntry(e, wantE) || !sameLog(after, want) {
		t.Fatalf("Propose(%v, %d, %v) is %v, %v, %v, not %v, %v, %v", list, replica, c, after, e, ok, want, wantE, wantOk)
	}
	if ok {
		checkProposeWords(t, list, replica, c)
	}
	if !sameLog(list, before) {
		t.Fatalf("Propose of %v makes it %v", before, list)
	}
}

// without returns a log without the entry with an id.
func without(list []impl.Entry, a impl.Id) []impl.Entry {
	return slices.DeleteFunc(deepLog(list), func(e impl.Entry) bool { return e.Id == a })
}

// checkProposeWords holds Propose that succeeds against the promises 56 to 58.
func checkProposeWords(t *testing.T, list []impl.Entry, replica int, c impl.Command) {
	t.Helper()
	after, e, ok := impl.Propose(list, replica, c)
	if found, there := impl.LogFind(after, e.Id); !ok || !impl.LogValid(after) || !there || !sameEntry(found, e) {
		t.Fatalf("Propose(%v, %d, %v) is %v, %v, %v, with %v, %v in the log", list, replica, c, after, e, ok, found, there)
	}
	if e.Status != impl.StatusSeen || e.Ballot != 0 || e.Id != id(replica, impl.NextNumber(list, replica)) || e.What != c {
		t.Fatalf("Propose(%v, %d, %v) is %v", list, replica, c, e)
	}
	rank, deps, attrsOk := impl.LogAttrs(list, e.Id, c)
	if !attrsOk || e.Seq != rank || !slices.Equal(e.Deps, deps) {
		t.Fatalf("Propose(%v, %d, %v) is %v, and LogAttrs %d, %v, %v", list, replica, c, e, rank, deps, attrsOk)
	}
	if !sameLog(without(after, e.Id), list) || len(after) != len(list)+1 {
		t.Fatalf("Propose(%v, %d, %v) is %v, with other entries changed", list, replica, c, after)
	}
	_, second, again := impl.Propose(after, replica, c)
	if again && (second.Id.Number <= e.Id.Number || slices.Contains(second.Deps, e.Id) != impl.CommandsClash(c, c)) {
		t.Fatalf("Propose(%v, %d, %v) is %v, and again %v", list, replica, c, e, second)
	}
}

// checkPreAccept holds PreAccept against the document, and against the words of the promises where it succeeds.
func checkPreAccept(t *testing.T, list []impl.Entry, e impl.Entry) {
	t.Helper()
	before, eBefore := deepLog(list), deepEntry(e)
	want, wantX, wantOk := wantPreAccept(list, e)
	after, x, ok := impl.PreAccept(list, e)
	if ok != wantOk || !sameEntry(x, wantX) || !sameLog(after, want) {
		t.Fatalf("PreAccept(%v, %v) is %v, %v, %v, not %v, %v, %v", list, e, after, x, ok, want, wantX, wantOk)
	}
	if ok {
		checkPreAcceptWords(t, list, e)
	}
	if !sameLog(list, before) || !sameEntry(e, eBefore) {
		t.Fatalf("PreAccept of %v and %v makes them %v and %v", before, eBefore, list, e)
	}
}

// checkPreAcceptWords holds PreAccept that succeeds against the promises 59 to 62.
func checkPreAcceptWords(t *testing.T, list []impl.Entry, e impl.Entry) {
	t.Helper()
	after, x, ok := impl.PreAccept(list, e)
	if !ok || x.Id != e.Id || x.What != e.What || x.Ballot != e.Ballot || x.Status != impl.StatusSeen || x.Seq < e.Seq || !impl.DepsWithin(e.Deps, x.Deps) {
		t.Fatalf("PreAccept(%v, %v) is %v, %v", list, e, x, ok)
	}
	if put, fine := impl.LogPut(list, x); !fine || !sameLog(put, after) || !impl.LogValid(after) {
		t.Fatalf("PreAccept(%v, %v) is %v, and LogPut of %v is %v, %v", list, e, after, x, put, fine)
	}
	rank, deps, attrsOk := impl.LogAttrs(list, e.Id, e.What)
	both, bothOk := impl.DepsJoin(e.Deps, deps)
	if !attrsOk || !bothOk || x.Seq != max(e.Seq, rank) || !slices.Equal(x.Deps, both) {
		t.Fatalf("PreAccept(%v, %v) is %v, and LogAttrs %d, %v, %v", list, e, x, rank, deps, attrsOk)
	}
	// What is returned adds nothing with either log, and what was given in adds nothing more.
	for _, from := range [][]impl.Entry{after, list} {
		for _, given := range []impl.Entry{x, e} {
			if again, y, fine := impl.PreAccept(from, given); !fine || !sameLog(again, after) || !sameEntry(y, x) {
				t.Fatalf("PreAccept(%v, %v) is %v, %v, %v, not %v, %v again", from, given, again, y, fine, after, x)
			}
		}
	}
}

// wantNoPropose checks that Propose fails, with zero values.
func wantNoPropose(t *testing.T, list []impl.Entry, replica int, c impl.Command) {
	t.Helper()
	if after, e, ok := impl.Propose(list, replica, c); ok || len(after) != 0 || !zeroEntry(e) {
		t.Fatalf("Propose(%v, %d, %v) is %v, %v, %v", list, replica, c, after, e, ok)
	}
}

// wantNoPreAccept checks that PreAccept fails, with zero values.
func wantNoPreAccept(t *testing.T, list []impl.Entry, e impl.Entry) {
	t.Helper()
	if after, x, ok := impl.PreAccept(list, e); ok || len(after) != 0 || !zeroEntry(x) {
		t.Fatalf("PreAccept(%v, %v) is %v, %v, %v", list, e, after, x, ok)
	}
}

// seenOf returns the entry of a word, as one that is proposed with a ballot.
func seenOf(word string, ballot int) impl.Entry {
	e := entryOf(word)
	e.Ballot, e.Status = ballot, impl.StatusSeen
	return e
}

// seenLog returns the log of a text, where all entries are proposed with the ballot 500.
func seenLog(text string) []impl.Entry {
	list := []impl.Entry{}
	for _, word := range strings.Fields(text) {
		list = append(list, seenOf(word, 500))
	}
	return list
}

// offersFor lists entries to take into a log: with the ids of its entries and with others, in ballots around theirs, and of all statuses.
func offersFor(random *rand.Rand, list []impl.Entry) []impl.Entry {
	offers := []impl.Entry{seenOf("a1p1", 0), seenOf("z99n", 999), seenOf("m5r1-abc", 7), someEntry(random, id(0, 1), 99), asEntry(id(2, 2)), {}}
	for _, e := range list {
		for ballot := e.Ballot - 1; ballot <= e.Ballot+1; ballot++ {
			same, other := deepEntry(e), someEntry(random, e.Id, 99)
			same.Ballot, other.Ballot, other.Status = ballot, ballot, impl.StatusSeen
			offers = append(offers, same, other)
		}
		beside := someEntry(random, id(e.Id.Replica, e.Id.Number%50+1), 98)
		beside.Status, beside.Deps = impl.StatusSeen, beside.Deps[:len(beside.Deps)/3]
		offers = append(offers, beside, asEntry(e.Id))
	}
	return offers
}

// The helpers themselves must see what the tests rely on.
func TestProposalHelpers(t *testing.T) {
	list := seenLog("b5p1 d4r1-b")
	if !wantLog(list) || list[0].Ballot != 500 || list[1].Ballot != 500 || list[0].Status != 1 || list[1].Status != 1 {
		t.Errorf("seenLog is %v", list)
	}
	if e := seenOf("c9p1-ab", 12); e.Id != letter('c') || e.Ballot != 12 || e.Status != 1 || !wantEntry(e) {
		t.Errorf("seenOf is %v", e)
	}
	if got := without(list, letter('b')); !sameLog(got, list[1:]) || sharing(got, list) {
		t.Errorf("without is %v", got)
	}
	if wantNumber(list, 0) != 38 || wantNumber(list, 1) != 1 || wantNumber(list, 5) != -1 || wantNumber(list, -1) != -1 {
		t.Errorf("wantNumber is %d", wantNumber(list, 0))
	}
	want := impl.Entry{Id: id(0, 38), Status: 1, What: put(1, 1), Seq: 6, Deps: lettersOf("bd")}
	if after, e, ok := wantPropose(list, 0, put(1, 1)); !ok || !sameEntry(e, want) || !sameLog(after, append(list, want)) {
		t.Errorf("wantPropose is %v, %v, %v", after, e, ok)
	}
	want = impl.Entry{Id: letter('c'), Ballot: 12, Status: 1, What: put(1, 7), Seq: 6, Deps: lettersOf("abd")}
	if after, e, ok := wantPreAccept(list, seenOf("c2p1-ab", 12)); !ok || !sameEntry(e, want) || !sameLog(after, []impl.Entry{list[0], want, list[1]}) {
		t.Errorf("wantPreAccept is %v, %v, %v", after, e, ok)
	}
}

// Promise 55: the next number of each replica, of logs of each kind.
func TestNextNumber(t *testing.T) {
	for _, list := range slices.Concat(listsOfLogs(), someLogs(55, 20), [][]impl.Entry{nil, logOf("b1n a1n"), logOf("a0n"), logOf("a1n a1n")}) {
		for _, replica := range edgeReplicas() {
			before := deepLog(list)
			checkNumber(t, list, replica)
			if !sameLog(list, before) {
				t.Fatalf("NextNumber of %v makes it %v", before, list)
			}
		}
	}
}

// No entries at all have no number of any replica.
func TestNextNumberNone(t *testing.T) {
	for _, list := range [][]impl.Entry{nil, {}, make([]impl.Entry, 0, 12), logOf("a1p1 f2p1")[:0]} {
		for replica := -20; replica <= 60; replica++ {
			want := 1
			if replica < 0 || replica >= impl.ReplicasMax {
				want = -1
			}
			if got := impl.NextNumber(list, replica); got != want {
				t.Fatalf("NextNumber of no entries and %d is %d", replica, got)
			}
		}
		for _, replica := range []int{math.MinInt, math.MaxInt, 1 << 32, -1 << 32, 1<<32 + 1, 256, 1 << 16} {
			if got := impl.NextNumber(list, replica); got != -1 {
				t.Fatalf("NextNumber of no entries and %d is %d", replica, got)
			}
		}
	}
}

func TestNextNumberTable(t *testing.T) {
	for _, test := range []struct {
		name string
		ids  []impl.Id
		want [5]int
	}{
		{"one of one replica", []impl.Id{id(2, 7)}, [5]int{1, 1, 8, 1, 1}},
		{"the first number", []impl.Id{id(0, 1)}, [5]int{2, 1, 1, 1, 1}},
		{"one of each replica", []impl.Id{id(0, 3), id(1, 1), id(2, 20), id(3, 49), id(4, 2)}, [5]int{4, 2, 21, 50, 3}},
		{"several in a row", []impl.Id{id(1, 1), id(1, 2), id(1, 3)}, [5]int{1, 4, 1, 1, 1}},
		{"several not in a row", []impl.Id{id(1, 2), id(1, 5), id(1, 31)}, [5]int{1, 32, 1, 1, 1}},
		{"several not in a row, of two replicas", []impl.Id{id(0, 4), id(0, 9), id(3, 1), id(3, 8)}, [5]int{10, 1, 1, 9, 1}},
		{"the greatest numbers ascend", []impl.Id{id(0, 1), id(1, 2), id(2, 3), id(3, 4), id(4, 5)}, [5]int{2, 3, 4, 5, 6}},
		{"the greatest numbers descend", []impl.Id{id(0, 9), id(1, 8), id(2, 7), id(3, 6), id(4, 5)}, [5]int{10, 9, 8, 7, 6}},
		{"the greatest number is NumberMax-1", []impl.Id{id(4, 49)}, [5]int{1, 1, 1, 1, 50}},
		{"the greatest number is NumberMax", []impl.Id{id(4, 50)}, [5]int{1, 1, 1, 1, -1}},
		{"NumberMax-1 and NumberMax", []impl.Id{id(1, 49), id(1, 50)}, [5]int{1, -1, 1, 1, 1}},
		{"the first number and NumberMax", []impl.Id{id(0, 1), id(0, 50)}, [5]int{-1, 1, 1, 1, 1}},
		{"NumberMax of another replica", []impl.Id{id(0, 50), id(1, 6), id(2, 50)}, [5]int{-1, 7, -1, 1, 1}},
		{"NumberMax of all replicas", []impl.Id{id(0, 50), id(1, 50), id(2, 50), id(3, 50), id(4, 50)}, [5]int{-1, -1, -1, -1, -1}},
		{"NumberMax of all other replicas", []impl.Id{id(0, 50), id(1, 50), id(3, 50), id(4, 50)}, [5]int{-1, -1, 1, -1, -1}},
		{"a full log of one replica", validIds()[138:150], [5]int{1, 1, -1, 1, 1}},
		{"a full log of the first numbers", validIds()[150:162], [5]int{1, 1, 1, 13, 1}},
	} {
		list := alike(test.ids, put(1, 1), 3)
		for replica, want := range test.want {
			if got := impl.NextNumber(list, replica); got != want {
				t.Errorf("%s: NextNumber of %d is %d, not %d", test.name, replica, got, want)
			}
			checkNumber(t, list, replica)
		}
		if below, above := impl.NextNumber(list, -1), impl.NextNumber(list, 5); below != -1 || above != -1 {
			t.Errorf("%s: NextNumber of replicas that are none is %d and %d", test.name, below, above)
		}
	}
}

// Each greatest number of each replica, alone and with the largest numbers of all others.
func TestNextNumberEach(t *testing.T) {
	for _, a := range validIds() {
		list := []impl.Entry{}
		for replica := range 5 {
			number := 50
			if replica == a.Replica {
				number = a.Number
			}
			list = append(list, impl.Entry{Id: id(replica, number), Ballot: 999, Status: 1 + a.Number%3, What: none(), Seq: 1 + a.Number})
		}
		want := a.Number + 1
		if a.Number == 50 {
			want = -1
		}
		alone := []impl.Entry{list[a.Replica]}
		if got, gotAlone := impl.NextNumber(list, a.Replica), impl.NextNumber(alone, a.Replica); got != want || gotAlone != want {
			t.Fatalf("NextNumber behind %v is %d, and alone %d", a, got, gotAlone)
		}
		for replica := range 5 {
			if got := impl.NextNumber(alone, replica); replica != a.Replica && got != 1 {
				t.Fatalf("NextNumber of %d with %v alone is %d", replica, a, got)
			}
		}
	}
}

// wantNothing checks that all functions fail for a log that is invalid, with zero values, also for what would fit otherwise.
func wantNothing(t *testing.T, list []impl.Entry) {
	t.Helper()
	for _, replica := range []int{-1, 0, 1, 2, 3, 4, 5} {
		if got := impl.NextNumber(list, replica); got != -1 {
			t.Fatalf("NextNumber(%v, %d) is %d", list, replica, got)
		}
		for _, c := range []impl.Command{none(), put(1, 1), read(5), {Kind: 4}} {
			wantNoPropose(t, list, replica, c)
		}
	}
	for _, a := range append(idsOfLog(list[:min(len(list), 14)]), id(0, 1), id(2, 33), id(4, 50), impl.Id{}) {
		wantNoPreAccept(t, list, impl.Entry{Id: a, Ballot: 999, Status: 1, What: none(), Seq: 1})
		wantNoPreAccept(t, list, asEntry(a))
	}
	for _, e := range list[:min(len(list), 14)] {
		wantNoPreAccept(t, list, e)
	}
}

// A log that is invalid in one part alone, at each place, whatever replica this is of, with entries that are invalid too.
func TestProposalsInvalidEntry(t *testing.T) {
	for _, text := range []string{"d5p1", "d1r0 e2n-d", "a1p1 d2p1-a g3a1-ad x4r1-ade y5p1-adex", "a1n-b b1n-f h9p1", "a1p1 b1p1 c1p1 d1p1 e1p1 f1p1 g1p1 h1p1 i1p1 j1p1 k1p1"} {
		list := seenLog(text)
		for i, e := range list {
			for name, bad := range spoiledEntries(e) {
				with := deepLog(list)
				with[i] = bad
				if wantLog(with) {
					t.Fatalf("%s: %v should be invalid", name, with)
				}
				wantNothing(t, with)
				wantNoPreAccept(t, list, bad)
				wantNoPreAccept(t, with, bad)
				wantNoPreAccept(t, without(list, e.Id), bad)
				wantNoPreAccept(t, nil, bad)
			}
		}
	}
}

// Entries that are not in order, ids twice, and too many.
func TestProposalsInvalidLog(t *testing.T) {
	for _, text := range []string{"b1n a1n", "a1n a1n", "a1n a2n", "a1n b1n a1n", "a1n b1n b1n", "a1n c1n b1n d1n", "f1p1 a1p1", "z1n a1n", "a0n", "a1n-a", "a1n-cb b1n"} {
		wantNothing(t, seenLog(text))
	}
	for _, list := range listsOfLogs() {
		if len(list) > 1 {
			backwards := deepLog(list)
			slices.Reverse(backwards)
			wantNothing(t, backwards)
		}
	}
	wantNothing(t, alike(validIds()[:13], none(), 1))
	wantNothing(t, alike(validIds()[30:43], put(1, 1), 3))
	wantNothing(t, alike(validIds(), add(1, 1), 3))
	wantNothing(t, make([]impl.Entry, 1))
	wantNothing(t, slices.Repeat(alike(validIds(), add(1, 1), 1), 500))
}

func TestProposeTable(t *testing.T) {
	ways, full := "b5r1 d4p1 f3a1 h2n j9r2 l8p2 n7a2", "a1p1 b2p1 c3p1 d4p1 e5p1 f6p1 g7p1 h8p1 i9p1 j10p1 k11p1"
	for _, test := range []struct {
		name, list   string
		replica      int
		what         impl.Command
		number, rank int
		deps         string
	}{
		{"putting into an empty log", "", 0, put(1, 7), 1, 1, ""},
		{"reading into an empty log", "", 4, read(5), 1, 1, ""},
		{"adding into an empty log", "", 2, add(0, 99), 1, 1, ""},
		{"nothing into an empty log", "", 3, none(), 1, 1, ""},
		{"reading, where no entry clashes", "b5r1 d4p2 f9n", 0, read(1), 38, 1, ""},
		{"adding, where no entry clashes", "b5a1 d4p2 f9n", 0, add(1, 4), 38, 1, ""},
		{"a key that no entry has", ways, 0, put(3, 1), 38, 1, ""},
		{"the key of what does nothing", ways, 0, put(0, 0), 38, 1, ""},
		{"reading, against all kinds", ways, 0, read(1), 38, 5, "df"},
		{"putting, against all kinds", ways, 1, put(1, 1), 42, 6, "bdf"},
		{"adding, against all kinds", ways, 2, add(1, 1), 28, 6, "bd"},
		{"nothing, against all kinds", ways, 3, none(), 1, 1, ""},
		{"adding at another key", ways, 4, add(2, 0), 1, 10, "jl"},
		{"all entries clash", "a3p1 f9r1 g2a1", 1, put(1, 5), 15, 10, "afg"},
		{"all entries clash, and its own are among them", "a3p1 b9r1 c2a1", 0, put(1, 5), 29, 10, "abc"},
		{"only entries of its own do not clash", "a99p2 f9r1 g2a1", 0, put(1, 5), 11, 10, "fg"},
		{"what the entries depend on does not count", "a9p1-xyz b2r2-vw", 0, put(1, 0), 20, 10, "a"},
		{"the greatest rank at the beginning", "a9p1 b7p1 f8p1", 4, read(1), 1, 10, "abf"},
		{"the greatest rank at the end", "a7p1 b8p1 f9p1", 4, read(1), 1, 10, "abf"},
		{"a rank of SeqMax-1", "a98p1 b3p1", 4, read(1), 1, 99, "ab"},
		{"a rank of SeqMax", "a99p1 b3p1", 4, read(1), 0, 0, ""},
		{"a rank of SeqMax, of its own entry", "a99p1 b3p1", 0, read(1), 0, 0, ""},
		{"a rank of SeqMax at another key", "a99p2 b3p1", 4, read(1), 1, 4, "b"},
		{"a rank of SeqMax of what reads, too", "a99r1 b3p1", 4, read(1), 1, 4, "b"},
		{"a rank of SeqMax of what does nothing", "a99n b3p1", 0, read(1), 20, 4, "b"},
		{"a rank of SeqMax, and nothing to do", "a99p1 b3p1", 0, none(), 20, 1, ""},
		{"as the last one that has room", full, 0, read(1), 47, 12, "abcdefghijk"},
		{"as the last one that has room, of another replica", full, 4, read(1), 1, 12, "abcdefghijk"},
		{"as the last one that has room, with nothing to do", full, 3, none(), 1, 1, ""},
		{"a full log", full + " l12p1", 0, read(1), 0, 0, ""},
		{"a full log, of another replica", full + " l12p1", 4, put(1, 1), 0, 0, ""},
		{"a full log, and nothing to do", full + " l12p1", 3, none(), 0, 0, ""},
		{"a full log that does not clash", full + " l12p1", 3, put(5, 5), 0, 0, ""},
	} {
		list := logOf(test.list)
		after, e, ok := impl.Propose(list, test.replica, test.what)
		if ok != (test.rank > 0) || !ok && (len(after) != 0 || !zeroEntry(e)) {
			t.Errorf("%s: Propose is %v, %v, %v", test.name, after, e, ok)
		}
		if ok && (e.Id != id(test.replica, test.number) || e.Ballot != 0 || e.Status != impl.StatusSeen || e.What != test.what || e.Seq != test.rank || asLetters(e.Deps) != test.deps) {
			t.Errorf("%s: Propose is %v", test.name, e)
		}
		checkPropose(t, list, test.replica, test.what)
	}
}

// Promises 56 to 58: commands of each kind into logs of each kind, by each replica.
func TestPropose(t *testing.T) {
	for _, list := range append(listsOfLogs(), someLogs(56, 6)...) {
		for _, replica := range edgeReplicas() {
			for _, c := range askedCommands() {
				checkPropose(t, list, replica, c)
			}
		}
	}
}

// Each valid command into an empty log, and behind an entry of each kind.
func TestProposeEachCommand(t *testing.T) {
	for _, c := range validCommands() {
		checkPropose(t, nil, 2, c)
		for _, first := range []impl.Command{none(), read(c.Key), put(c.Key, 50), add(c.Key, 50), put((c.Key+1)%6, 1)} {
			checkPropose(t, []impl.Entry{{Id: id(2, 2), Ballot: 9, Status: 3, What: first, Seq: 40}}, 2, c)
			checkPropose(t, []impl.Entry{{Id: id(3, 2), Ballot: 9, Status: 2, What: first, Seq: 40}}, 2, c)
		}
	}
}

// Promise 58, by its words, again and again up to a full log.
func TestProposeAgain(t *testing.T) {
	for replica := range 5 {
		for _, c := range []impl.Command{none(), read(0), read(5), put(0, 0), put(5, 99), add(0, 0), add(5, 99)} {
			var list []impl.Entry
			for round := range 12 {
				after, e, ok := impl.Propose(list, replica, c)
				if !ok || len(after) != round+1 || e.Id != id(replica, round+1) {
					t.Fatalf("Propose of %v in round %d is %v, %v, %v", c, round, after, e, ok)
				}
				// What puts clashes with all that were ahead of it, and nothing else clashes with itself.
				rank, deps := 1, 0
				if c.Kind == impl.KindPut {
					rank, deps = round+1, round
				}
				if e.Seq != rank || len(e.Deps) != deps || deps > 0 && e.Deps[deps-1] != id(replica, round) {
					t.Fatalf("Propose of %v in round %d is %v", c, round, e)
				}
				checkPropose(t, list, replica, c)
				list = after
			}
			wantNoPropose(t, list, replica, c)
		}
	}
}

// The last number, and none left, at each replica and with others beside it.
func TestProposeNumbers(t *testing.T) {
	for replica := range 5 {
		other := (replica + 2) % 5
		for _, c := range []impl.Command{none(), put(1, 1), read(1), add(3, 3)} {
			_, e, ok := impl.Propose(alike([]impl.Id{id(replica, 49)}, put(1, 1), 2), replica, c)
			if !ok || e.Id != id(replica, 50) {
				t.Errorf("behind the number 49, Propose is %v, %v", e, ok)
			}
			last := alike([]impl.Id{id(replica, 50)}, put(1, 1), 2)
			wantNoPropose(t, last, replica, c)
			if _, e, ok := impl.Propose(last, other, c); !ok || e.Id != id(other, 1) {
				t.Errorf("with the number 50 of another replica, Propose is %v, %v", e, ok)
			}
			both := alike(inOrder([]impl.Id{id(replica, 50), id(other, 12)}), put(2, 1), 2)
			wantNoPropose(t, both, replica, c)
			checkPropose(t, both, other, c)
			wantNoPropose(t, alike(inOrder([]impl.Id{id(replica, 1), id(replica, 50)}), none(), 1), replica, c)
		}
	}
}

// Each greatest rank of what clashes, and of what does not.
func TestProposeRanks(t *testing.T) {
	for rank := 1; rank <= 99; rank++ {
		list := alike([]impl.Id{id(0, 9), id(2, 1), id(4, 4)}, put(1, 1), rank)
		list[0].Seq, list[2].Seq = 1, (rank+1)/2
		_, e, ok := impl.Propose(list, 2, add(1, 0))
		if rank == 99 {
			wantNoPropose(t, list, 2, add(1, 0))
		} else if !ok || e.Seq != rank+1 || len(e.Deps) != 3 {
			t.Errorf("with the rank %d, Propose is %v, %v", rank, e, ok)
		}
		list[1].What = put(2, 1)
		if _, e, ok := impl.Propose(list, 2, add(1, 0)); !ok || e.Seq != (rank+1)/2+1 || len(e.Deps) != 2 {
			t.Errorf("with the rank %d elsewhere, Propose is %v, %v", rank, e, ok)
		}
	}
}

// Invalid replicas, commands and logs, alone and together.
func TestProposeInvalid(t *testing.T) {
	bad := logOf("d2p1 a1p1")
	for _, list := range [][]impl.Entry{nil, logOf("a1p1 d2p1-a"), logOf("a99p1"), alike(validIds()[:11], read(1), 1), alike(validIds()[:12], read(1), 1)} {
		for _, replica := range edgeReplicas() {
			if replica < 0 || replica > 4 {
				wantNoPropose(t, list, replica, put(1, 1))
				wantNoPropose(t, list, replica, none())
				wantNoPropose(t, list, replica, impl.Command{Kind: 4})
				wantNoPropose(t, bad, replica, none())
				wantNoPropose(t, bad, replica, impl.Command{Kind: -1})
			}
		}
		for _, c := range invalidCommands() {
			wantNoPropose(t, list, 0, c)
			wantNoPropose(t, list, 3, c)
			wantNoPropose(t, bad, 1, c)
		}
	}
}

// preAcceptTest is a log, an entry with its ballot, and the rank and what it depends on then, or the rank 0 if it fails.
type preAcceptTest struct {
	name, list, e string
	ballot, rank  int
	deps          string
}

// newTests lists tests of entries that the log does not have. All entries of the log are proposed with the ballot 500.
func newTests() []preAcceptTest {
	ways, full := "b5r1 d4p1 f3a1 h2n j9r2 l8p2 n7a2", "b1p1 d2p1 f3p1 h4p1 j5p1 l6p1 n7p1 p8p1 r9p1 t10p1 v11p1"
	return []preAcceptTest{
		{"into an empty log", "", "c5p1-ab", 0, 5, "ab"},
		{"into an empty log, with the greatest rank and ballot", "", "c99r0", 999, 99, ""},
		{"ahead of all", ways, "a1p1", 0, 6, "bdf"},
		{"between two", ways, "e1p1", 1, 6, "bdf"},
		{"behind all", ways, "z1p1", 999, 6, "bdf"},
		{"reading", ways, "z1r1", 3, 5, "df"},
		{"adding", ways, "z1a1", 3, 6, "bd"},
		{"nothing", ways, "z1n", 3, 1, ""},
		{"nothing, with a rank and ids of its own", ways, "z7n-abx", 3, 7, "abx"},
		{"another key", ways, "z1p2", 3, 10, "jln"},
		{"a key that no entry has", ways, "z4p3-c", 3, 4, "c"},
		{"a rank that is less by 1", ways, "z5p1", 3, 6, "bdf"},
		{"the same rank", ways, "z6p1", 3, 6, "bdf"},
		{"a rank that is greater by 1", ways, "z7p1", 3, 7, "bdf"},
		{"the greatest rank", ways, "z99p1", 3, 99, "bdf"},
		{"a rank of entries that do not clash", ways, "z1r3", 3, 1, ""},
		{"ids that are within", ways, "z1p1-d", 3, 6, "bdf"},
		{"the same ids", ways, "z1p1-bdf", 3, 6, "bdf"},
		{"ids that are more", ways, "z1p1-abcdefg", 3, 6, "abcdefg"},
		{"ids apart, ahead", ways, "z1p1-a", 3, 6, "abdf"},
		{"ids apart, between", ways, "z1p1-ceh", 3, 6, "bcdefh"},
		{"ids apart, behind", ways, "z1p1-wxy", 3, 6, "bdfwxy"},
		{"ids partly among them", ways, "z1p1-adx", 3, 6, "abdfx"},
		{"ids of entries that do not clash", ways, "z1p1-jln", 3, 6, "bdfjln"},
		{"ids without a command that clashes", ways, "z1p4-adx", 3, 1, "adx"},
		{"a clashing rank of SeqMax-1", "a98p1 b3p1", "z1r1", 3, 99, "ab"},
		{"a clashing rank of SeqMax", "a99p1 b3p1", "z1r1", 3, 0, ""},
		{"a clashing rank of SeqMax, and the rank SeqMax", "a99p1 b3p1", "z99r1-ab", 3, 0, ""},
		{"a rank of SeqMax at another key", "a99p2 b3p1", "z1r1", 3, 4, "b"},
		{"a rank of SeqMax of what reads, too", "a99r1 b3p1", "z1r1", 3, 4, "b"},
		{"a rank of SeqMax of what does nothing", "a99n b3p1", "z1r1", 3, 4, "b"},
		{"a rank of SeqMax, and nothing to do", "a99p1 b3p1", "z1n", 3, 1, ""},
		{"as the last one that has room, ahead", full, "a1r1", 3, 12, "bdfhjlnprtv"},
		{"as the last one that has room, between", full, "k1n-abcdefghijlm", 3, 1, "abcdefghijlm"},
		{"as the last one that has room, behind", full, "w1r1-d", 3, 12, "bdfhjlnprtv"},
		{"together IdsMax ids", full, "w1r1-dy", 3, 12, "bdfhjlnprtvy"},
		{"together one more than IdsMax ids", full, "w1r1-dyz", 3, 0, ""},
		{"together one more than IdsMax ids, ahead", full, "w1r1-acd", 3, 0, ""},
		{"a full log", full + " x12p1", "w1r1", 3, 0, ""},
		{"a full log that does not clash, ahead", full + " x12p1", "a1n", 3, 0, ""},
		{"a full log that does not clash, behind", full + " x12p1", "z1n", 999, 0, ""},
	}
}

// thereTests lists tests of entries whose ids the log has.
func thereTests() []preAcceptTest {
	full := "b1p1 d2p1 f3p1 h4p1 j5p1 l6p1 n7p1 p8p1 r9p1 t10p1 v11p1 x12p1"
	return []preAcceptTest{
		{"a lesser ballot", "d5p1 f3p1", "d5p1", 499, 0, ""},
		{"the ballot 0", "d5p1 f3p1", "d5p1", 0, 0, ""},
		{"the same ballot", "d5p1 f3p1", "d5p1", 500, 5, "f"},
		{"a greater ballot", "d5p1 f3p1", "d5p1", 501, 5, "f"},
		{"the greatest ballot", "d5p1 f3p1", "d5p1", 999, 5, "f"},
		{"a lesser ballot for the last one", "a9p1 d5p1 f3p1", "f5p1", 499, 0, ""},
		{"a greater ballot for the last one", "a9p1 d5p1 f3p1", "f5p1", 501, 10, "ad"},
		{"a lesser ballot than that of another id", "d5p1 f3p1", "e5p1", 0, 6, "df"},
		{"the same attributes", "d4p1-f f3p1", "d4p1-f", 500, 4, "f"},
		{"with a lesser rank", "d9p1-f f3p1", "d1p1-f", 500, 4, "f"},
		{"with a greater rank", "d9p1-f f3p1", "d10p1-f", 500, 10, "f"},
		{"with fewer ids: those of the old entry do not count", "d9p1-fgh f3p1", "d9p1", 500, 9, "f"},
		{"with more ids", "d9p1-f f3p1", "d9p1-xy", 500, 9, "fxy"},
		{"with another command", "d9p1-f f3p1 g5r2", "d1p2-z", 500, 6, "gz"},
		{"with nothing to do", "d9p1-f f3p1 g5r2", "d1n", 500, 1, ""},
		{"instead of nothing to do", "d9n f3p1 g5r2", "d1r1", 500, 4, "f"},
		{"its own rank is SeqMax", "d99p1 f3p1", "d1p1", 500, 4, "f"},
		{"its own rank is SeqMax, alone", "d99p1", "d1p1", 501, 1, ""},
		{"its own rank is SeqMax, and a clashing one, too", "d99p1 f99p1", "d1p1", 501, 0, ""},
		{"its own rank is SeqMax, and another one that does not clash, too", "d99p1 f99p2", "d1p1", 501, 1, ""},
		{"another rank is SeqMax", "d9p1 f99p1", "d1p1", 501, 0, ""},
		{"another rank is SeqMax, with another command that does not clash", "d9p1 f99p1", "d1p2", 501, 1, ""},
		{"a full log, the first one", full, "b1p1", 500, 13, "dfhjlnprtvx"},
		{"a full log, one in the middle", full, "l1r1", 999, 13, "bdfhjnprtvx"},
		{"a full log, the last one", full, "x1r1", 501, 12, "bdfhjlnprtv"},
		{"a full log, with one more id", full, "x1r1-a", 501, 12, "abdfhjlnprtv"},
		{"a full log, with one more id and one that is there", full, "x1r1-dy", 501, 12, "bdfhjlnprtvy"},
		{"a full log, with too many ids", full, "x1r1-yz", 501, 0, ""},
		{"a full log that does not clash, with many ids", full, "x1n-abcdefghijkl", 501, 1, "abcdefghijkl"},
	}
}

func TestPreAcceptTable(t *testing.T) {
	for _, test := range append(newTests(), thereTests()...) {
		list, e := seenLog(test.list), seenOf(test.e, test.ballot)
		if !wantLog(list) || !wantEntry(e) {
			t.Fatalf("%s: %v or %v is not valid", test.name, list, e)
		}
		after, x, ok := impl.PreAccept(list, e)
		if ok != (test.rank > 0) || !ok && (len(after) != 0 || !zeroEntry(x)) {
			t.Errorf("%s: PreAccept is %v, %v, %v", test.name, after, x, ok)
		}
		if ok && (x.Id != e.Id || x.Ballot != test.ballot || x.Status != impl.StatusSeen || x.What != e.What || x.Seq != test.rank || asLetters(x.Deps) != test.deps) {
			t.Errorf("%s: PreAccept is %v", test.name, x)
		}
		if ok && !sameLog(without(after, e.Id), without(list, e.Id)) {
			t.Errorf("%s: PreAccept is %v, with other entries changed", test.name, after)
		}
		checkPreAccept(t, list, e)
		for _, status := range []int{impl.StatusTaken, impl.StatusFixed} {
			e.Status = status
			wantNoPreAccept(t, list, e)
		}
	}
}

// Each two ballots, and each two statuses, of the entry and of the one that is there.
func TestPreAcceptBallots(t *testing.T) {
	ballots := []int{0, 1, 2, 4, 5, 6, 9, 10, 11, 499, 500, 501, 997, 998, 999}
	for _, old := range ballots {
		for _, ballot := range ballots {
			for oldStatus := 1; oldStatus <= 3; oldStatus++ {
				for status := 1; status <= 3; status++ {
					list := logOf("a9p1 d2p1-a g7a1-a")
					list[1].Ballot, list[1].Status = old, oldStatus
					e := entryOf("d3p1-g")
					e.Ballot, e.Status = ballot, status
					want := old <= ballot && oldStatus == impl.StatusSeen && status == impl.StatusSeen
					if _, x, ok := impl.PreAccept(list, e); ok != want || ok && x.Ballot != ballot || !ok && !zeroEntry(x) {
						t.Fatalf("PreAccept(%v, %v) is %v, %v", list, e, x, ok)
					}
					checkPreAccept(t, list, e)
				}
			}
		}
	}
}

// Ballots and statuses of entries with other ids do not count.
func TestPreAcceptOtherEntries(t *testing.T) {
	for status := 1; status <= 3; status++ {
		for _, ballot := range []int{0, 1, 2, 500, 999} {
			list := logOf("a9p1 d2r1 g7a1")
			for i := range list {
				list[i].Ballot, list[i].Status = ballot, status
			}
			for _, e := range []impl.Entry{seenOf("b1p1", 1), seenOf("z1p1-x", 0), seenOf("e1p1-ad", 999)} {
				if _, x, ok := impl.PreAccept(list, e); !ok || x.Seq != 10 || x.Ballot != e.Ballot {
					t.Fatalf("PreAccept(%v, %v) is %v, %v", list, e, x, ok)
				}
				checkPreAccept(t, list, e)
			}
		}
	}
}

// An entry that is valid but not proposed is not taken anywhere.
func TestPreAcceptNotProposed(t *testing.T) {
	random := rand.New(rand.NewSource(59))
	for _, list := range append(listsOfLogs(), someLogs(59, 3)...) {
		for _, a := range append(idsOfLog(list), id(0, 1), id(2, 25), id(4, 50)) {
			for _, status := range []int{impl.StatusTaken, impl.StatusFixed} {
				e := someEntry(random, a, 99)
				e.Ballot, e.Status = 999, status
				wantNoPreAccept(t, list, e)
			}
		}
	}
}

// Each two ranks: that of the entry, and the greatest one of the log.
func TestPreAcceptRanks(t *testing.T) {
	list := alike([]impl.Id{id(0, 9), id(2, 1), id(4, 4)}, put(1, 1), 1)
	for greatest := 1; greatest <= 99; greatest++ {
		for rank := 1; rank <= 99; rank++ {
			list[1].Seq = greatest
			e := impl.Entry{Id: id(3, 3), Ballot: 4, Status: 1, What: add(1, 1), Seq: rank}
			_, x, ok := impl.PreAccept(list, e)
			if ok != (greatest < 99) || ok && x.Seq != max(rank, greatest+1) {
				t.Fatalf("with the rank %d in the log and %d, PreAccept is %v, %v", greatest, rank, x, ok)
			}
			// The rank of an entry that does not clash, or that has the id, does not count.
			e.What = read(2)
			if _, x, ok := impl.PreAccept(list, e); !ok || x.Seq != rank {
				t.Fatalf("with the rank %d elsewhere and %d, PreAccept is %v, %v", greatest, rank, x, ok)
			}
			e.Id, e.What = id(2, 1), add(1, 1)
			if _, x, ok := impl.PreAccept(list, e); !ok || x.Seq != max(rank, 2) {
				t.Fatalf("with the rank %d at the id and %d, PreAccept is %v, %v", greatest, rank, x, ok)
			}
		}
	}
}

// Up to IdsMax ids are together fine, and more are not: each number of ids of the log, of the entry and of both.
func TestPreAcceptIdsLimit(t *testing.T) {
	random := rand.New(rand.NewSource(61))
	for many := range 12 {
		for common := 0; common <= many; common++ {
			for apart := 0; common+apart <= 12; apart++ {
				ids := someIds(random, many+apart+1)
				own, log, other := ids[0], ids[1:1+many], ids[1+many:]
				e := impl.Entry{Id: own, Status: 1, What: read(1), Seq: 5, Deps: inOrder(append(slices.Clone(log[:common]), other...))}
				for _, there := range []bool{false, true} {
					list := alike(inOrder(log), put(1, 1), 7)
					if there {
						list = alike(inOrder(append(slices.Clone(log), own)), put(1, 1), 7)
					}
					after, x, ok := impl.PreAccept(list, e)
					if ok != (many+apart <= 12) || ok && (len(x.Deps) != many+apart || len(after) != many+1) {
						t.Fatalf("PreAccept(%v, %v) is %v, %v, %v", list, e, after, x, ok)
					}
					checkPreAccept(t, list, e)
				}
			}
		}
	}
}

// The id, the ballot and the command stay as they are, whatever they are.
func TestPreAcceptEachPart(t *testing.T) {
	for ballot := range 1000 {
		checkPreAccept(t, seenLog("a9p1 g7a1"), seenOf("d3p1-x", ballot))
		checkPreAccept(t, seenLog("a9p1 d3p1 g7a1"), seenOf("d3p1-x", ballot))
	}
	for _, c := range validCommands() {
		e := seenOf("d3p1-x", 600)
		e.What = c
		for _, text := range []string{"", "a9p1 g7a1", "a9p0 c3r5 d4n g7a0"} {
			checkPreAccept(t, seenLog(text), e)
		}
	}
	for _, a := range validIds() {
		for _, text := range []string{"", "a9p1 g7a1", "a9p1-x b8r1 c7a1 d6p1 e5r1 f4a1"} {
			checkPreAccept(t, seenLog(text), impl.Entry{Id: a, Ballot: 500, Status: 1, What: put(1, 6), Seq: 1})
		}
	}
}

// Promises 59 to 62: entries of all kinds into logs of each kind.
func TestPreAccept(t *testing.T) {
	random := rand.New(rand.NewSource(60))
	for _, list := range append(listsOfLogs(), someLogs(60, 30)...) {
		for _, e := range offersFor(random, list) {
			checkPreAccept(t, list, e)
		}
		proposed := deepLog(list)
		for i := range proposed {
			proposed[i].Status = impl.StatusSeen
		}
		for _, e := range offersFor(random, proposed) {
			checkPreAccept(t, proposed, e)
		}
	}
}

// An invalid log, an invalid entry, and both, also where the entry would stand instead of what is invalid.
func TestPreAcceptInvalid(t *testing.T) {
	good, bad := seenLog("a1p1 d2p1-a"), seenLog("d2p1-a a1p1")
	for _, e := range []impl.Entry{seenOf("a5n", 500), seenOf("c5n", 0), seenOf("z5n", 999), seenOf("d3p1-a", 501)} {
		for _, wrong := range spoiledEntries(e) {
			wantNoPreAccept(t, good, wrong)
			wantNoPreAccept(t, bad, wrong)
			wantNoPreAccept(t, []impl.Entry{wrong}, e)
			wantNoPreAccept(t, []impl.Entry{wrong}, wrong)
		}
		wantNoPreAccept(t, bad, e)
	}
	for _, a := range invalidIds() {
		wantNoPreAccept(t, good, impl.Entry{Id: a, Status: 1, What: none(), Seq: 1})
	}
	for _, c := range invalidCommands() {
		wantNoPreAccept(t, good, impl.Entry{Id: letter('c'), Status: 1, What: c, Seq: 1})
	}
	full := alike(validIds()[:13], none(), 1)
	for _, e := range full {
		wantNoPreAccept(t, full, e)
	}
}

// Replicas propose and tell each other: what comes back depends on all that clashes at either.
func TestProposeAndPreAccept(t *testing.T) {
	random := rand.New(rand.NewSource(62))
	for range 300 {
		logs := make([][]impl.Entry, 3)
		for range 12 {
			from, c := random.Intn(3), manyCommands(random, 1)[0]
			checkPropose(t, logs[from], from, c)
			after, e, ok := impl.Propose(logs[from], from, c)
			if !ok {
				continue
			}
			logs[from] = after
			to := (from + 1 + random.Intn(2)) % 3
			checkPreAccept(t, logs[to], e)
			if told, x, fine := impl.PreAccept(logs[to], e); fine {
				logs[to] = told
				checkPreAccept(t, logs[from], x)
			}
		}
	}
}

// proposalResults lists the results of all functions for a log and some entries, each as a log.
func proposalResults(list, puts []impl.Entry) [][]impl.Entry {
	var results [][]impl.Entry
	for _, e := range puts {
		number := impl.NextNumber(list, e.Id.Replica)
		proposed, own, _ := impl.Propose(list, e.Id.Replica, e.What)
		accepted, with, _ := impl.PreAccept(list, e)
		results = append(results, proposed[:cap(proposed)], []impl.Entry{own}, accepted[:cap(accepted)], []impl.Entry{with}, []impl.Entry{{Seq: number}})
	}
	return results
}

// fewOffers lists a few entries to take into a log, most of which fit.
func fewOffers(random *rand.Rand, list []impl.Entry) []impl.Entry {
	offers := []impl.Entry{seenOf("a1p1", 999), seenOf("m5r1-abc", 7), seenOf("z99n-ab", 999), {Id: id(5, 5), Deps: lettersOf("ab")}}
	for _, e := range list {
		with := deepEntry(e)
		with.What = manyCommands(random, 1)[0]
		offers = append(offers, with)
	}
	return offers
}

// Also for logs that are invalid, and where a function fails.
func TestProposalMemory(t *testing.T) {
	random := rand.New(rand.NewSource(57))
	lists := append(listsOfLogs(), logOf("b1n a1n"), logOf("a1n-a b1n"), logOf("a0n-b b1n"), logOf("a99p1-b b1p1-a"), alike(validIds()[:13], none(), 1), seenLog("a5p1-bx d3r1-a g7a1-ad x4n-a"), seenLog("b1p1-a d2p1-ab"))
	for _, list := range lists {
		checkLogMemory(t, list, fewOffers(random, list), proposalResults)
	}
}

// Entries of a log, and the one to take, may depend on the same memory, or on parts of it that overlap.
func TestProposalOneMemory(t *testing.T) {
	deps, whole := roomy(lettersOf("abcd"))
	list := []impl.Entry{
		{Id: letter('e'), Status: 1, What: put(1, 1), Seq: 1, Deps: deps},
		{Id: letter('f'), Status: 1, What: put(1, 2), Seq: 2, Deps: deps[1:3]},
		{Id: letter('g'), Status: 3, What: put(1, 3), Seq: 3, Deps: deps[:0]},
		{Id: letter('h'), Status: 1, What: read(1), Seq: 4, Deps: deps[2:]},
	}
	before, idsBefore := deepLog(list), slices.Clone(whole)
	for _, e := range append(slices.Clone(list), impl.Entry{Id: letter('m'), Status: 1, What: none(), Seq: 9, Deps: deps}) {
		want, _, _ := wantPreAccept(before, deepEntry(e))
		want = deepLog(want)
		results := proposalResults(list, []impl.Entry{e})
		if !sameLog(results[2], want) || sharing(whole, results) {
			t.Fatalf("PreAccept(%v, %v) is %v, or a function shares what it is given", list, e, results[2])
		}
		if len(want) > 0 {
			spoilLog(results[2][:1:1])
			spoilLog(results[3])
			if !sameLog(results[2][1:], want[1:]) {
				t.Fatalf("behind PreAccept(%v, %v), one entry of the result changes another one", list, e)
			}
		}
		for _, result := range results {
			spoilLog(result)
		}
		if !sameLog(list, before) || !slices.Equal(whole, idsBefore) {
			t.Fatalf("behind a function of %v, its result changes an argument", before)
		}
	}
}

// The same call gives the same result, however often it is made.
func TestProposalAgain(t *testing.T) {
	random := rand.New(rand.NewSource(58))
	for _, list := range append(someLogs(58, 1), seenLog("a9p1-x b8r1 c7a1 d6p1 e5r1 f4a1")) {
		puts := fewOffers(random, list)
		want := proposalResults(list, puts)
		for range 20 {
			if got := proposalResults(list, puts); !sameLogs(got, want) {
				t.Fatalf("a function of %v returns different results", list)
			}
		}
	}
}

func FuzzProposals(f *testing.F) {
	f.Add([]byte{}, false, 0)
	f.Add([]byte{14, 6, 6, 9, 2, 15, 6, 7, 200, 1, 30, 99, 5, 3, 0}, true, 1)
	f.Add([]byte{14, 1, 0, 4, 0, 14, 1, 0, 4, 0}, false, 2)
	f.Add([]byte{14, 1, 6, 4, 1, 17, 1, 6, 4, 1, 20, 99, 6, 7, 9}, true, 0)
	f.Add([]byte{20, 98, 6, 4, 1, 22, 98, 6, 4, 1, 24, 99, 11, 4, 0}, true, 5)
	f.Fuzz(func(t *testing.T, bytes []byte, sort bool, replica int) {
		// Of all entries, the last few are given in; far more than LogMax others would only take long.
		all := entriesOfBytes(bytes[:min(100, len(bytes))])
		list, offers := all[:len(all)*2/3], all[len(all)*2/3:]
		if sort {
			slices.SortFunc(list, func(x, y impl.Entry) int { return places[x.Id] - places[y.Id] })
			list = slices.CompactFunc(list, func(x, y impl.Entry) bool { return x.Id == y.Id })
		}
		for _, e := range slices.Concat(list, offers) {
			for _, asked := range []int{replica, e.Id.Replica} {
				checkNumber(t, list, asked)
				checkPropose(t, list, asked, e.What)
				checkPropose(t, nil, asked, e.What)
			}
			checkPreAccept(t, list, e)
			e.Ballot, e.Status = 999, impl.StatusSeen
			checkPreAccept(t, list, e)
			checkPreAccept(t, nil, e)
		}
		checkLogMemory(t, list, offers, proposalResults)
	})
}
