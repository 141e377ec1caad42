package tests

import (
	"math"
	"math/rand"
	"reflect"
	"slices"
	"strconv"
	"strings"
	"testing"

	"loop.example/leaderlesslog/impl"
)

// valids has all valid commands.
var valids = validSet()

// entryOf returns the entry of a word: its letter, its rank, the first letter of a kind of command, a key, and behind a hyphen the letters that it depends on. Its other parts differ from letter to letter.
func entryOf(word string) impl.Entry {
	head, deps, _ := strings.Cut(word, "-")
	at, far := strings.IndexAny(head[1:], "rpan")+1, int(head[0]-'a')
	rank, _ := strconv.Atoi(head[1:at])
	key, _ := strconv.Atoi(head[at+1:])
	what := none()
	switch head[at] {
	case 'r':
		what = read(key)
	case 'p':
		what = put(key, 3*far+1)
	case 'a':
		what = add(key, 3*far+2)
	}
	return impl.Entry{Id: letter(head[0]), Ballot: 37 * far, Status: 1 + far%3, What: what, Seq: rank, Deps: lettersOf(deps)}
}

// logOf returns the log of a text with a word for each entry.
func logOf(text string) []impl.Entry {
	list := []impl.Entry{}
	for _, word := range strings.Fields(text) {
		list = append(list, entryOf(word))
	}
	return list
}

// wantEntry reports whether an entry is valid, by the words of the document.
func wantEntry(e impl.Entry) bool {
	_, idValid := places[e.Id]
	return idValid && e.Ballot >= 0 && e.Ballot <= 999 && (e.Status == 1 || e.Status == 2 || e.Status == 3) && valids[e.What] &&
		e.Seq >= 1 && e.Seq <= 99 && wantSorted(e.Deps) && !slices.Contains(e.Deps, e.Id)
}

// idsOfLog lists the ids of entries.
func idsOfLog(list []impl.Entry) []impl.Id {
	var ids []impl.Id
	for _, e := range list {
		ids = append(ids, e.Id)
	}
	return ids
}

// wantLog reports whether a log is valid, by the words of the document.
func wantLog(list []impl.Entry) bool {
	return wantSorted(idsOfLog(list)) && !slices.ContainsFunc(list, func(e impl.Entry) bool { return !wantEntry(e) })
}

// wantFind returns what LogFind has to return, by looking at each entry.
func wantFind(list []impl.Entry, a impl.Id) (impl.Entry, bool) {
	place := slices.Index(idsOfLog(list), a)
	if !wantLog(list) || place < 0 {
		return impl.Entry{}, false
	}
	return list[place], true
}

// wantPut returns what LogPut has to return, by going through the places of all valid ids.
func wantPut(list []impl.Entry, e impl.Entry) ([]impl.Entry, bool) {
	if !wantLog(list) || !wantEntry(e) {
		return nil, false
	}
	there := map[int]impl.Entry{}
	for _, old := range append(slices.Clone(list), e) {
		there[places[old.Id]] = old
	}
	var after []impl.Entry
	for place := range len(places) {
		if old, ok := there[place]; ok {
			after = append(after, old)
		}
	}
	if len(after) > 12 {
		return nil, false
	}
	return after, true
}

// wantAttrs returns what LogAttrs has to return, by the words of the document.
func wantAttrs(list []impl.Entry, a impl.Id, c impl.Command) (int, []impl.Id, bool) {
	if _, idValid := places[a]; !idValid || !wantLog(list) || !valids[c] {
		return 0, nil, false
	}
	rank, deps := 1, []impl.Id{}
	for _, e := range list {
		if e.Id != a && wantClash(valids, e.What, c) {
			rank, deps = max(rank, 1+e.Seq), append(deps, e.Id)
		}
	}
	if rank > 99 {
		return 0, nil, false
	}
	return rank, deps, true
}

func deepEntry(e impl.Entry) impl.Entry {
	e.Deps = append([]impl.Id{}, e.Deps...)
	return e
}

// deepLog returns a copy of a log that shares no memory with it.
func deepLog(list []impl.Entry) []impl.Entry {
	copied := []impl.Entry{}
	for _, e := range list {
		copied = append(copied, deepEntry(e))
	}
	return copied
}

func sameEntry(x, y impl.Entry) bool {
	return x.Id == y.Id && x.Ballot == y.Ballot && x.Status == y.Status && x.What == y.What && x.Seq == y.Seq && slices.Equal(x.Deps, y.Deps)
}

func sameLog(a, b []impl.Entry) bool { return slices.EqualFunc(a, b, sameEntry) }

// zeroEntry reports whether an entry is the zero value, where what it depends on may be nil or empty.
func zeroEntry(e impl.Entry) bool { return sameEntry(e, impl.Entry{}) }

// askedCommands lists valid commands of each kind at a few keys, and some that are invalid.
func askedCommands() []impl.Command {
	list := []impl.Command{none(), {}, {Kind: 4}, {Kind: -1}, {Kind: 0, Key: 1, Value: 1}, {Kind: 3, Key: 1}, put(6, 0), add(1, 100), put(-1, 3), read(6)}
	for _, key := range []int{0, 1, 2, 5} {
		list = append(list, read(key), put(key, 0), put(key, 99), add(key, 0), add(key, 7))
	}
	return list
}

// askedOfLog lists ids to ask a log for: those of all entries, those around them, and invalid ones.
func askedOfLog(list []impl.Entry) []impl.Id {
	asked := []impl.Id{{}, id(-1, 1), id(5, 1), id(0, 51), id(0, 1), id(4, 50), id(2, 25)}
	for _, e := range list {
		asked = append(asked, e.Id, id(e.Id.Replica, e.Id.Number+1), id(e.Id.Replica, e.Id.Number-1), id(e.Id.Replica+1, e.Id.Number))
	}
	return asked
}

// asEntry returns an entry with an id, with parts that none of the other tests has.
func asEntry(a impl.Id) impl.Entry {
	e := impl.Entry{Id: a, Ballot: 998, Status: impl.StatusTaken, What: put(1, 88), Seq: 77, Deps: []impl.Id{id(0, 49), id(3, 2), id(4, 48)}}
	e.Deps = slices.DeleteFunc(e.Deps, func(b impl.Id) bool { return a == b })
	return e
}

// checkEntries holds all functions of a log, whatever it is, against the document, for some ids and commands.
func checkEntries(t *testing.T, list []impl.Entry, asked []impl.Id, commands []impl.Command) {
	t.Helper()
	before := deepLog(list)
	if got := impl.LogValid(list); got != wantLog(list) {
		t.Fatalf("LogValid(%v) is %v", list, got)
	}
	for _, e := range list {
		if got := impl.EntryValid(e); got != wantEntry(e) {
			t.Fatalf("EntryValid(%v) is %v", e, got)
		}
	}
	for _, a := range asked {
		want, wantOk := wantFind(list, a)
		if got, ok := impl.LogFind(list, a); ok != wantOk || !sameEntry(got, want) {
			t.Fatalf("LogFind(%v, %v) is %v, %v, not %v, %v", list, a, got, ok, want, wantOk)
		}
		checkPut(t, list, asEntry(a))
		for _, c := range commands {
			checkAttrs(t, list, a, c)
		}
	}
	if !sameLog(list, before) {
		t.Fatalf("the log %v becomes %v", before, list)
	}
}

// checkPut holds LogPut against the document.
func checkPut(t *testing.T, list []impl.Entry, e impl.Entry) {
	t.Helper()
	before := deepEntry(e)
	want, wantOk := wantPut(list, e)
	if got, ok := impl.LogPut(list, e); ok != wantOk || !sameLog(got, want) {
		t.Fatalf("LogPut(%v, %v) is %v, %v, not %v, %v", list, e, got, ok, want, wantOk)
	}
	if !sameEntry(e, before) {
		t.Fatalf("LogPut of %v makes it %v", before, e)
	}
}

// checkAttrs holds LogAttrs against the document.
func checkAttrs(t *testing.T, list []impl.Entry, a impl.Id, c impl.Command) {
	t.Helper()
	wantRank, wantDeps, wantOk := wantAttrs(list, a, c)
	if rank, deps, ok := impl.LogAttrs(list, a, c); ok != wantOk || rank != wantRank || !slices.Equal(deps, wantDeps) {
		t.Fatalf("LogAttrs(%v, %v, %v) is %d, %v, %v, not %d, %v, %v", list, a, c, rank, deps, ok, wantRank, wantDeps, wantOk)
	}
}

// checkLog holds all functions of a log, whatever it is, against the document.
func checkLog(t *testing.T, list []impl.Entry) {
	t.Helper()
	checkEntries(t, list, askedOfLog(list), askedCommands())
}

// wantNoLog checks that all functions tell that a log is invalid, with zero values, also for what is there or fits.
func wantNoLog(t *testing.T, list []impl.Entry) {
	t.Helper()
	if impl.LogValid(list) {
		t.Fatalf("%v is valid", list)
	}
	for _, a := range append(idsOfLog(list[:min(len(list), 14)]), id(0, 1), id(2, 33), impl.Id{}) {
		if e, ok := impl.LogFind(list, a); ok || !zeroEntry(e) {
			t.Fatalf("LogFind(%v, %v) is %v, %v", list, a, e, ok)
		}
		wantNoPut(t, list, asEntry(a))
		wantNoPut(t, list, impl.Entry{Id: a, Status: 1, What: none(), Seq: 1})
		for _, c := range []impl.Command{none(), put(1, 1), read(5), {Kind: 4}} {
			wantNoAttrs(t, list, a, c)
		}
	}
	for _, e := range list[:min(len(list), 14)] {
		wantNoPut(t, list, e)
	}
}

// wantNoPut checks that LogPut fails, with zero values.
func wantNoPut(t *testing.T, list []impl.Entry, e impl.Entry) {
	t.Helper()
	if got, ok := impl.LogPut(list, e); ok || len(got) != 0 {
		t.Fatalf("LogPut(%v, %v) is %v, %v", list, e, got, ok)
	}
}

// wantNoAttrs checks that LogAttrs fails, with zero values.
func wantNoAttrs(t *testing.T, list []impl.Entry, a impl.Id, c impl.Command) {
	t.Helper()
	if rank, deps, ok := impl.LogAttrs(list, a, c); ok || rank != 0 || len(deps) != 0 {
		t.Fatalf("LogAttrs(%v, %v, %v) is %d, %v, %v", list, a, c, rank, deps, ok)
	}
}

// someEntry returns a valid entry with an id, and with a rank up to a greatest one.
func someEntry(random *rand.Rand, a impl.Id, ranks int) impl.Entry {
	deps := slices.DeleteFunc(sortedIds(random, random.Intn(13)), func(b impl.Id) bool { return a == b })
	return impl.Entry{Id: a, Ballot: random.Intn(1000), Status: 1 + random.Intn(3), What: manyCommands(random, 1)[0], Seq: 1 + random.Intn(ranks), Deps: deps}
}

// someLog returns a valid log of so many entries.
func someLog(random *rand.Rand, many, ranks int) []impl.Entry {
	list := []impl.Entry{}
	for _, a := range sortedIds(random, many) {
		list = append(list, someEntry(random, a, ranks))
	}
	return list
}

// someLogs lists valid logs of all numbers of entries, with low and high ranks.
func someLogs(seed int64, times int) [][]impl.Entry {
	random := rand.New(rand.NewSource(seed))
	var lists [][]impl.Entry
	for range times {
		for many := 1; many <= 12; many++ {
			lists = append(lists, someLog(random, many, []int{1, 4, 60, 98, 99}[random.Intn(5)]))
		}
	}
	return lists
}

// alike returns a log with entries with some ids, all with one command and one rank.
func alike(ids []impl.Id, c impl.Command, rank int) []impl.Entry {
	list := []impl.Entry{}
	for _, a := range ids {
		list = append(list, impl.Entry{Id: a, Status: impl.StatusSeen, What: c, Seq: rank})
	}
	return list
}

// listsOfLogs lists valid logs: none, short ones, full ones, and any others.
func listsOfLogs() [][]impl.Entry {
	all := validIds()
	lists := [][]impl.Entry{
		nil, {}, make([]impl.Entry, 0, 20), logOf("c5p1"), logOf("c99r0-abdefghijklm"), logOf("a1n b1n-a c1n-ab"),
		logOf("a3p1 b4p1-a c5r1-ab d5r1-ab e6a1-abcd f7a1-abcd"), logOf("a2p1-b b2p1-a"), logOf("b99p5 m1a5-xyz y98r5"),
		alike([]impl.Id{all[0], all[249]}, put(0, 0), 99), alike(all[:11], put(1, 1), 98), alike(all[238:], add(5, 99), 1), alike(all[44:56], read(2), 50),
		logOf("a1p0 b2p1 c3p2 d4p3 e5p4 f6p5 g7a0 h8a1 i9a2 j10a3 k11a4 l12a5"),
	}
	return append(lists, someLogs(45, 3)...)
}

func TestEntryConstants(t *testing.T) {
	got := []int{impl.LogMax, impl.BallotMax, impl.StatusSeen, impl.StatusTaken, impl.StatusFixed}
	if !slices.Equal(got, []int{12, 999, 1, 2, 3}) {
		t.Errorf("the constants are %v", got)
	}
}

// The helpers themselves must see what the tests rely on.
func TestEntryHelpers(t *testing.T) {
	want := []impl.Entry{
		{Id: letter('a'), Ballot: 0, Status: 1, What: read(5), Seq: 12, Deps: []impl.Id{letter('b'), letter('z')}},
		{Id: letter('b'), Ballot: 37, Status: 2, What: put(1, 4), Seq: 3},
		{Id: letter('c'), Ballot: 74, Status: 3, What: add(0, 8), Seq: 1, Deps: []impl.Id{}},
		{Id: letter('d'), Ballot: 111, Status: 1, What: none(), Seq: 99},
	}
	if got := logOf("a12r5-bz b3p1 c1a0 d99n"); !sameLog(got, want) || !wantLog(got) {
		t.Errorf("logOf is %v", got)
	}
	for _, a := range validIds() {
		if !wantEntry(asEntry(a)) {
			t.Errorf("asEntry of %v is not valid", a)
		}
	}
	for _, list := range listsOfLogs() {
		if !wantLog(list) || !sameLog(list, deepLog(list)) || len(list) > 0 && sharing(list, deepLog(list)) {
			t.Errorf("%v is not a valid log, or not copied", list)
		}
	}
	for _, e := range []impl.Entry{{Id: id(0, 1)}, {Ballot: 1}, {Status: 1}, {What: add(0, 0)}, {Seq: 1}, {Deps: lettersOf("a")}} {
		if zeroEntry(e) || sameEntry(e, impl.Entry{}) || sameLog([]impl.Entry{e}, []impl.Entry{{}}) {
			t.Errorf("%v is held to be the zero value", e)
		}
	}
	if !zeroEntry(impl.Entry{Deps: []impl.Id{}}) {
		t.Errorf("the zero value is not seen")
	}
}

// checkAlone holds EntryValid of an entry, and LogValid of it alone, against what is told.
func checkAlone(t *testing.T, e impl.Entry, want bool) {
	t.Helper()
	before := deepEntry(e)
	if wantEntry(e) != want || impl.EntryValid(e) != want || impl.LogValid([]impl.Entry{e}) != want {
		t.Fatalf("EntryValid(%v) is %v, and LogValid of it alone %v", e, impl.EntryValid(e), impl.LogValid([]impl.Entry{e}))
	}
	if got, ok := impl.LogPut(nil, e); ok != want || want != (len(got) == 1 && sameEntry(got[0], e)) || !want && len(got) != 0 {
		t.Fatalf("LogPut of %v alone is %v, %v", e, got, ok)
	}
	if !sameEntry(e, before) {
		t.Fatalf("EntryValid, LogValid or LogPut of %v makes it %v", before, e)
	}
}

// Each part of an entry has each value that it may have, and those around.
func TestEntryValid(t *testing.T) {
	base := entryOf("m5p1-ax")
	for ballot := -1100; ballot <= 2100; ballot++ {
		e := base
		e.Ballot = ballot
		checkAlone(t, e, ballot >= 0 && ballot <= 999)
	}
	for n := -120; n <= 300; n++ {
		e, other := base, base
		e.Status, other.Seq = n, n
		checkAlone(t, e, n >= 1 && n <= 3)
		checkAlone(t, other, n >= 1 && n <= 99)
	}
	for _, c := range append(validCommands(), edgeCommands()...) {
		e := base
		e.What = c
		checkAlone(t, e, valids[c])
	}
	for _, a := range slices.Concat(validIds(), edgeIds()) {
		e := base
		e.Id, e.Deps = a, nil
		_, want := places[a]
		checkAlone(t, e, want)
	}
	for _, list := range listsOfDeps() {
		e := base
		e.Deps = list
		checkAlone(t, e, !slices.Contains(list, base.Id))
	}
}

// The limits of an entry in one part alone.
func TestEntryLimits(t *testing.T) {
	valid := func(change func(*impl.Entry), want bool) {
		t.Helper()
		for _, word := range []string{"m5p1", "b1r0-a", "z99n-abcdefghijkl"} {
			e := entryOf(word)
			change(&e)
			checkAlone(t, e, want)
		}
	}
	for _, ballot := range []int{0, 1, 998, 999} {
		valid(func(e *impl.Entry) { e.Ballot = ballot }, true)
	}
	for _, ballot := range []int{-1, -2, -999, -1000, 1000, 1001, 9999, 1 << 32, 1<<32 + 1, 1<<16 + 1, math.MinInt, math.MaxInt} {
		valid(func(e *impl.Entry) { e.Ballot = ballot }, false)
	}
	for _, status := range []int{impl.StatusSeen, impl.StatusTaken, impl.StatusFixed} {
		valid(func(e *impl.Entry) { e.Status = status }, true)
	}
	for _, status := range []int{0, -1, -2, -3, 4, 5, 7, 1<<8 + 1, 1<<32 + 1, math.MinInt, math.MaxInt} {
		valid(func(e *impl.Entry) { e.Status = status }, false)
	}
	for _, rank := range []int{1, 2, 98, 99} {
		valid(func(e *impl.Entry) { e.Seq = rank }, true)
	}
	for _, rank := range []int{0, -1, -99, 100, 101, 999, 1<<8 + 1, 1<<32 + 1, math.MinInt, math.MaxInt} {
		valid(func(e *impl.Entry) { e.Seq = rank }, false)
	}
	for _, deps := range [][]impl.Id{nil, {}, make([]impl.Id, 0, 12), {id(0, 1)}, {id(4, 50)}, validIds()[:12], validIds()[238:]} {
		valid(func(e *impl.Entry) { e.Deps = deps }, true)
	}
	for _, deps := range [][]impl.Id{validIds()[:13], validIds()[237:], validIds()} {
		valid(func(e *impl.Entry) { e.Deps = deps }, false)
	}
	valid(func(e *impl.Entry) { *e = impl.Entry{} }, false)
}

// spoiledEntries lists what a valid entry becomes in each way of being invalid in one part alone.
func spoiledEntries(e impl.Entry) map[string]impl.Entry {
	list := map[string]impl.Entry{"no entry": {}}
	change := func(name string, number int, to func(*impl.Entry)) {
		bad := deepEntry(e)
		to(&bad)
		list[name+" "+strconv.Itoa(number)] = bad
	}
	for name, n := range spoiled(impl.Node{Id: e.Id, Seq: e.Seq, Deps: e.Deps}) {
		if n.Id == e.Id {
			change(name, 0, func(bad *impl.Entry) { bad.Seq, bad.Deps = n.Seq, n.Deps })
		}
	}
	for i, a := range []impl.Id{{}, id(e.Id.Replica, 0), id(e.Id.Replica, 51), id(e.Id.Replica, -1), id(5, e.Id.Number), id(-1, e.Id.Number)} {
		change("the id", i, func(bad *impl.Entry) { bad.Id = a })
	}
	for i, c := range []impl.Command{
		{Kind: 4}, {Kind: -1}, {Kind: 4, Key: 1, Value: 1}, {Kind: 0, Key: 6}, {Kind: 0, Key: -1}, {Kind: 0, Key: 1, Value: 1},
		{Kind: 1, Key: 6, Value: 1}, {Kind: 1, Key: -1, Value: 1}, {Kind: 1, Key: 1, Value: 100}, {Kind: 1, Key: 1, Value: -1},
		{Kind: 2, Key: 6, Value: 1}, {Kind: 2, Key: -1, Value: 1}, {Kind: 2, Key: 1, Value: 100}, {Kind: 2, Key: 1, Value: -1},
		{Kind: 3, Key: 1}, {Kind: 3, Value: 1}, {Kind: 3, Key: -1}, {Kind: 3, Key: 1, Value: 1},
	} {
		change("the command", i, func(bad *impl.Entry) { bad.What = c })
	}
	for _, ballot := range []int{-1, 1000, math.MinInt, math.MaxInt} {
		change("the ballot", ballot, func(bad *impl.Entry) { bad.Ballot = ballot })
	}
	for _, status := range []int{-1, 0, 4, math.MinInt, math.MaxInt} {
		change("the status", status, func(bad *impl.Entry) { bad.Status = status })
	}
	return list
}

// An entry that is invalid in one part alone spoils all, alone and at each place of a log.
func TestEntryInvalid(t *testing.T) {
	for _, text := range []string{
		"d5p1", "d1r0 e2n-d", "a1p1 d2p1-a e3a1-ad x4r1-ade y5p1-adex", "b1n-c c1n-b d9a5",
		"a1p1-b b1p1-c c1p1-d d1p1-e e1p1-f f1p1-g g1p1-h h1p1-i i1p1-j j1p1-k k1p1-l l1p1-a",
	} {
		list := logOf(text)
		checkLog(t, list)
		for i, e := range list {
			for name, bad := range spoiledEntries(e) {
				if wantEntry(bad) {
					t.Fatalf("%s: %v should be invalid", name, bad)
				}
				checkAlone(t, bad, false)
				with := deepLog(list)
				with[i] = bad
				wantNoLog(t, with)
				wantNoPut(t, list, bad)
				wantNoPut(t, slices.Delete(deepLog(list), i, i+1), bad)
				wantNoPut(t, with, bad)
				wantNoPut(t, with, e)
			}
		}
	}
}

// Promise 52, by its words, with its own id wherever it stands.
func TestEntryOnItself(t *testing.T) {
	for _, list := range listsOfLogs() {
		for _, e := range list {
			if !impl.EntryValid(e) {
				t.Fatalf("%v is not valid", e)
			}
			alone, added, replaced, noRank := e, e, deepEntry(e), e
			alone.Deps = []impl.Id{e.Id}
			added.Deps = inOrder(append(slices.Clone(e.Deps), e.Id))
			if len(e.Deps) > 0 {
				replaced.Deps[len(e.Deps)/2] = e.Id
			} else {
				replaced.Deps = []impl.Id{e.Id, id(4, 50)}
			}
			replaced.Deps = inOrder(replaced.Deps)
			noRank.Seq = 0
			for _, bad := range []impl.Entry{alone, added, replaced, noRank} {
				checkAlone(t, bad, false)
			}
		}
	}
	for _, a := range validIds() {
		checkAlone(t, impl.Entry{Id: a, Status: 3, What: none(), Seq: 1, Deps: []impl.Id{a}}, false)
	}
}

// No entries at all, nil and empty, are a log without ids and without attributes.
func TestLogNone(t *testing.T) {
	for _, list := range [][]impl.Entry{nil, {}, make([]impl.Entry, 0, 12), logOf("a1p1 b2p1")[:0]} {
		if !impl.LogValid(list) {
			t.Errorf("no entries are not valid")
		}
		checkEntries(t, list, append(validIds(), edgeIds()...), askedCommands())
		for _, c := range validCommands() {
			if rank, deps, ok := impl.LogAttrs(list, id(3, 3), c); !ok || rank != 1 || len(deps) != 0 {
				t.Fatalf("LogAttrs of no entries is %d, %v, %v", rank, deps, ok)
			}
		}
	}
}

// LogMax entries are valid, and one more are not.
func TestLogLimit(t *testing.T) {
	all := validIds()
	for from := 0; from+13 <= len(all); from += 7 {
		for many := range 13 {
			list := alike(all[from:from+many], put(1, 1), 3)
			if !impl.LogValid(list) {
				t.Fatalf("%v is not valid", list)
			}
			checkEntries(t, list, []impl.Id{all[from], all[from+many], all[from+12]}, []impl.Command{none(), read(1)})
		}
		wantNoLog(t, alike(all[from:from+13], put(1, 1), 3))
	}
	wantNoLog(t, alike(lettersOf("abcdefghijklm"), none(), 1))
	wantNoLog(t, alike(all[:24], read(0), 99))
	wantNoLog(t, alike(all, read(0), 1))
	wantNoLog(t, slices.Repeat(logOf("a1n b1n"), 6))
	wantNoLog(t, slices.Repeat(logOf("a1n"), 13))
	wantNoLog(t, make([]impl.Entry, 13))
	wantNoLog(t, slices.Repeat(alike(all, add(1, 1), 1), 2000))
}

// Entries that are not in order, and ids twice, side by side and apart, with the same parts and with others.
func TestLogOutOfOrder(t *testing.T) {
	for _, list := range listsOfLogs() {
		for i := range list {
			for j := range i {
				swapped := deepLog(list)
				swapped[i], swapped[j] = swapped[j], swapped[i]
				wantNoLog(t, swapped)
				twice := deepLog(list)
				twice[i] = asEntry(list[j].Id)
				wantNoLog(t, twice)
				twice = deepLog(list)
				twice[j] = deepEntry(list[i])
				wantNoLog(t, twice)
			}
			for place := 0; place <= len(list); place++ {
				wantNoLog(t, slices.Insert(deepLog(list), place, list[i]))
				wantNoLog(t, slices.Insert(deepLog(list), place, asEntry(list[i].Id)))
			}
		}
		if len(list) > 1 {
			backwards := deepLog(list)
			slices.Reverse(backwards)
			wantNoLog(t, backwards)
		}
	}
	for _, text := range []string{"b1n a1n", "a1n a1n", "a1n a2n", "a1p1 a1r1", "a1n b1n a1n", "a1n b1n a2p1", "a1n b1n b1n", "a1n c1n b1n d1n", "b1n c1n a1n", "a1n a1n a1n", "c1n a1n b1n"} {
		wantNoLog(t, logOf(text))
	}
}

// Promise 53, by its words.
func TestLogWithoutOneAndTwice(t *testing.T) {
	for _, list := range listsOfLogs() {
		if !impl.LogValid(list) {
			t.Fatalf("%v is not valid", list)
		}
		for i, e := range list {
			without := slices.Delete(deepLog(list), i, i+1)
			if !impl.LogValid(without) {
				t.Fatalf("%v is not valid", without)
			}
			for place := 0; place <= len(list); place++ {
				if twice := slices.Insert(deepLog(list), place, e); impl.LogValid(twice) {
					t.Fatalf("%v is valid", twice)
				}
			}
			checkEntries(t, without, []impl.Id{e.Id}, []impl.Command{e.What})
		}
	}
}

// All functions of logs of each kind, for many ids and commands.
func TestLogs(t *testing.T) {
	for _, list := range append(listsOfLogs(), someLogs(46, 4)...) {
		checkLog(t, list)
	}
}

// Promises 47 and 48: each id of a valid log is found with all its parts, and no other id is.
func TestLogFind(t *testing.T) {
	for _, list := range listsOfLogs() {
		for _, a := range slices.Concat(validIds(), edgeIds()) {
			e, ok := impl.LogFind(list, a)
			if ok != slices.Contains(idsOfLog(list), a) {
				t.Fatalf("LogFind(%v, %v) is %v, %v", list, a, e, ok)
			}
			if !ok && !zeroEntry(e) {
				t.Fatalf("LogFind(%v, %v) fails with %v", list, a, e)
			}
			one := slices.ContainsFunc(list, func(other impl.Entry) bool { return sameEntry(e, other) })
			if ok && (e.Id != a || !impl.EntryValid(e) || !one) {
				t.Fatalf("LogFind(%v, %v) is %v", list, a, e)
			}
		}
	}
}

func TestLogFindTable(t *testing.T) {
	list := logOf("d4p1-bx f3r2 h99a5-d k1n-df m7p0-abcdefghijkl")
	for _, test := range []struct {
		name, letter string
		want         impl.Entry
	}{
		{"the first one", "d", impl.Entry{Id: id(0, 37), Ballot: 111, Status: 1, What: put(1, 10), Seq: 4, Deps: []impl.Id{id(0, 19), id(4, 17)}}},
		{"the second one", "f", impl.Entry{Id: id(1, 5), Ballot: 185, Status: 3, What: read(2), Seq: 3}},
		{"one in the middle", "h", impl.Entry{Id: id(1, 23), Ballot: 259, Status: 2, What: add(5, 23), Seq: 99, Deps: []impl.Id{id(0, 37)}}},
		{"one that does nothing", "k", impl.Entry{Id: id(1, 50), Ballot: 370, Status: 2, What: none(), Seq: 1, Deps: []impl.Id{id(0, 37), id(1, 5)}}},
		{"the last one", "m", impl.Entry{Id: id(2, 18), Ballot: 444, Status: 1, What: put(0, 37), Seq: 7, Deps: lettersOf("abcdefghijkl")}},
	} {
		if got, ok := impl.LogFind(list, letter(test.letter[0])); !ok || !sameEntry(got, test.want) {
			t.Errorf("%s: LogFind is %v, %v", test.name, got, ok)
		}
	}
	for name, a := range map[string]impl.Id{
		"ahead of all": id(0, 1), "just ahead of the first one": id(0, 36), "between two": id(1, 6), "between two of two replicas": id(0, 50), "just behind the last one": id(2, 19),
		"behind all": id(4, 50), "what an entry depends on": letter('b'), "no id": {}, "the number 0": id(0, 0), "a replica too large": id(5, 5), "a number too large": id(1, 51), "a replica too small": id(-1, 37),
	} {
		if got, ok := impl.LogFind(list, a); ok || !zeroEntry(got) {
			t.Errorf("%s: LogFind is %v, %v", name, got, ok)
		}
	}
}

// A log that is invalid elsewhere has nothing, also where the id itself is fine.
func TestLogFindInvalidElsewhere(t *testing.T) {
	list := logOf("a1p1 d2p1-a e3a1-ad x4r1-ade y5p1-adex")
	for i, e := range list {
		for _, bad := range spoiledEntries(e) {
			with := deepLog(list)
			with[i] = bad
			for k, other := range list {
				if got, ok := impl.LogFind(with, other.Id); ok || !zeroEntry(got) {
					t.Fatalf("with %v at %d, LogFind of entry %d is %v, %v", bad, i, k, got, ok)
				}
			}
			// An invalid id is not found either where an entry has it.
			if got, ok := impl.LogFind(with, bad.Id); ok || !zeroEntry(got) {
				t.Fatalf("LogFind(%v, %v) is %v, %v", with, bad.Id, got, ok)
			}
		}
	}
	for _, a := range invalidIds() {
		with := []impl.Entry{{Id: a, Status: 1, What: none(), Seq: 1}}
		if got, ok := impl.LogFind(with, a); ok || !zeroEntry(got) {
			t.Fatalf("LogFind(%v, %v) is %v, %v", with, a, got, ok)
		}
	}
}

// checkPutWords holds LogPut that succeeds against the promises 45 and 46.
func checkPutWords(t *testing.T, list []impl.Entry, e impl.Entry) {
	t.Helper()
	after, ok := impl.LogPut(list, e)
	if !ok || !impl.LogValid(after) {
		t.Fatalf("LogPut(%v, %v) is %v, %v", list, e, after, ok)
	}
	if got, found := impl.LogFind(after, e.Id); !found || !sameEntry(got, e) {
		t.Fatalf("behind LogPut(%v, %v), LogFind is %v, %v", list, e, got, found)
	}
	isOther := func(x impl.Entry) bool { return x.Id != e.Id }
	others, before := []impl.Entry{}, []impl.Entry{}
	for _, x := range after {
		if isOther(x) {
			others = append(others, x)
		}
	}
	for _, x := range list {
		if isOther(x) {
			before = append(before, x)
		}
	}
	if !sameLog(others, before) || len(after) != len(before)+1 {
		t.Fatalf("LogPut(%v, %v) is %v, with other entries changed", list, e, after)
	}
	if again, okAgain := impl.LogPut(after, e); !okAgain || !sameLog(again, after) {
		t.Fatalf("LogPut(%v, %v) is %v, and again %v, %v", list, e, after, again, okAgain)
	}
}

// Promises 45 and 46, for entries with each valid id, new or there.
func TestLogPut(t *testing.T) {
	random := rand.New(rand.NewSource(46))
	for _, list := range listsOfLogs() {
		for _, a := range validIds() {
			e := someEntry(random, a, 99)
			if _, there := wantFind(list, a); len(list) == 12 && !there {
				wantNoPut(t, list, e)
				continue
			}
			checkPutWords(t, list, e)
			checkPut(t, list, e)
		}
		for _, e := range list {
			checkPutWords(t, list, e)
			if after, ok := impl.LogPut(list, e); !ok || !sameLog(after, list) {
				t.Fatalf("LogPut(%v, %v) is %v, %v", list, e, after, ok)
			}
		}
	}
}

func TestLogPutTable(t *testing.T) {
	full := "b1p1 d2p1 f3p1 h4p1 j5p1 l6p1 n7p1 p8p1 r9p1 t10p1 v11p1 "
	for _, test := range []struct{ name, list, e, want string }{
		{"into an empty log", "", "c5p1-a", "c5p1-a"},
		{"ahead of one", "d4r1", "c5p1", "c5p1 d4r1"},
		{"behind one", "d4r1", "e5p1", "d4r1 e5p1"},
		{"instead of one", "d4r1-a", "d5p2-xy", "d5p2-xy"},
		{"instead of one, with less", "d4r1-abc", "d4r1", "d4r1"},
		{"ahead of all", "d4r1 f3a2-d h2n", "a1n", "a1n d4r1 f3a2-d h2n"},
		{"between the first ones", "d4r1 f3a2-d h2n", "e1n", "d4r1 e1n f3a2-d h2n"},
		{"between the last ones", "d4r1 f3a2-d h2n", "g1n-d", "d4r1 f3a2-d g1n-d h2n"},
		{"behind all", "d4r1 f3a2-d h2n", "z1n", "d4r1 f3a2-d h2n z1n"},
		{"instead of the first one", "d4r1 f3a2-d h2n", "d9p3-h", "d9p3-h f3a2-d h2n"},
		{"instead of the one in the middle", "d4r1 f3a2-d h2n", "f9p3", "d4r1 f9p3 h2n"},
		{"instead of the last one", "d4r1 f3a2-d h2n", "h1n-af", "d4r1 f3a2-d h1n-af"},
		{"what depends on what is not there", "d4r1", "e5p1-xyz", "d4r1 e5p1-xyz"},
		{"with a lesser rank", "d4r1 e9p1", "e1p1", "d4r1 e1p1"},
		{"as the last one that has room, ahead", full, "a1n", "a1n " + full},
		{"as the last one that has room, between", full, "k1n", "b1p1 d2p1 f3p1 h4p1 j5p1 k1n l6p1 n7p1 p8p1 r9p1 t10p1 v11p1"},
		{"as the last one that has room, behind", full, "w1n", full + "w1n"},
		{"instead of the first one of a full log", full + "x1r1", "b99n-x", "b99n-x" + full[4:] + "x1r1"},
		{"instead of the last one of a full log", full + "x1r1", "x2a1-bd", full + "x2a1-bd"},
		{"instead of the one in the middle of a full log", full + "x1r1", "l7n", strings.Replace(full, "l6p1", "l7n", 1) + "x1r1"},
		{"the same one into a full log", full + "x1r1", "l6p1", full + "x1r1"},
		{"too many, ahead", full + "x1r1", "a1n", ""},
		{"too many, between", full + "x1r1", "m1n", ""},
		{"too many, behind", full + "x1r1", "z1n", ""},
	} {
		list, e := logOf(test.list), entryOf(test.e)
		after, ok := impl.LogPut(list, e)
		if ok != (test.want != "") || !sameLog(after, logOf(test.want)) {
			t.Errorf("%s: LogPut is %v, %v", test.name, after, ok)
		}
		if ok {
			checkPutWords(t, list, e)
		}
		checkPut(t, list, e)
		checkLog(t, list)
	}
}

// An entry with the same id in other ballots and statuses is put, too: LogPut does not ask which one is further.
func TestLogPutEachPart(t *testing.T) {
	list := logOf("a1p1 d2p1-a e3a1-ad")
	for i, e := range list {
		for _, ballot := range []int{0, 1, 500, 999} {
			for _, status := range []int{1, 2, 3} {
				for _, rank := range []int{1, 50, 99} {
					with := deepEntry(e)
					with.Ballot, with.Status, with.Seq = ballot, status, rank
					after, ok := impl.LogPut(list, with)
					if !ok || len(after) != 3 || !sameEntry(after[i], with) {
						t.Fatalf("LogPut(%v, %v) is %v, %v", list, with, after, ok)
					}
					checkPutWords(t, list, with)
				}
			}
		}
		for _, c := range validCommands() {
			with := deepEntry(e)
			with.What = c
			checkPutWords(t, list, with)
		}
	}
}

// An invalid log, an invalid entry, and both, also where the entry would stand instead of what is invalid.
func TestLogPutInvalid(t *testing.T) {
	good, bad := logOf("a1p1 d2p1-a"), logOf("d2p1-a a1p1")
	for _, e := range []impl.Entry{entryOf("a5n"), entryOf("c5n"), entryOf("z5n")} {
		for _, wrong := range spoiledEntries(e) {
			wantNoPut(t, good, wrong)
			wantNoPut(t, nil, wrong)
			wantNoPut(t, bad, wrong)
			wantNoPut(t, []impl.Entry{wrong}, e)
			wantNoPut(t, []impl.Entry{wrong}, wrong)
		}
		wantNoPut(t, bad, e)
	}
	for _, list := range []string{"a1n a2n", "b1n a1n", "a0n", "a1n b100n", "a1n-a", "a1n-cb"} {
		for _, e := range []string{"a1n", "b1n", "c1n"} {
			wantNoPut(t, logOf(list), entryOf(e))
		}
	}
	full := alike(validIds()[:13], none(), 1)
	for _, e := range full {
		wantNoPut(t, full, e)
	}
}

// checkAttrsWords holds LogAttrs that succeeds against the promises 49 to 51 and 54.
func checkAttrsWords(t *testing.T, list []impl.Entry, a impl.Id, c impl.Command) {
	t.Helper()
	rank, deps, ok := impl.LogAttrs(list, a, c)
	if !ok || !impl.DepsValid(deps) {
		t.Fatalf("LogAttrs(%v, %v, %v) is %d, %v, %v", list, a, c, rank, deps, ok)
	}
	reason := rank == 1 && len(deps) == 0
	for _, e := range list {
		depends := slices.Contains(deps, e.Id)
		if depends != (e.Id != a && impl.CommandsClash(e.What, c)) || depends && e.Seq >= rank {
			t.Fatalf("LogAttrs(%v, %v, %v) is %d, %v, which is wrong of %v", list, a, c, rank, deps, e)
		}
		reason = reason || depends && rank == e.Seq+1
	}
	for _, b := range deps {
		if !slices.Contains(idsOfLog(list), b) {
			t.Fatalf("LogAttrs(%v, %v, %v) is %d, %v, with %v", list, a, c, rank, deps, b)
		}
	}
	if !reason || rank < 1 || rank > impl.SeqMax || c == none() && (rank != 1 || len(deps) != 0) {
		t.Fatalf("LogAttrs(%v, %v, %v) is %d, %v", list, a, c, rank, deps)
	}
	for i := range list {
		fewerRank, fewerDeps, fine := impl.LogAttrs(slices.Delete(deepLog(list), i, i+1), a, c)
		if !fine || fewerRank > rank || !impl.DepsWithin(fewerDeps, deps) {
			t.Fatalf("LogAttrs(%v, %v, %v) is %d, %v, and without entry %d %d, %v, %v", list, a, c, rank, deps, i, fewerRank, fewerDeps, fine)
		}
	}
}

// Promises 49 to 51, and 54, for ids that are there and not, and commands of all kinds.
func TestLogAttrs(t *testing.T) {
	for _, list := range append(listsOfLogs(), someLogs(49, 5)...) {
		for _, a := range append(idsOfLog(list), id(0, 1), id(2, 25), id(4, 50)) {
			for _, c := range askedCommands() {
				if _, _, ok := wantAttrs(list, a, c); ok {
					checkAttrsWords(t, list, a, c)
				} else {
					wantNoAttrs(t, list, a, c)
				}
			}
		}
	}
}

func TestLogAttrsTable(t *testing.T) {
	ways, many := "b5r1 d4p1 f3a1 h2n j9r2 l8p2 n7a2", "a1p1 b2p1 c3p1 d4p1 e5p1 f6p1 g7p1 h8p1 i9p1 j10p1 k11p1"
	for _, test := range []struct {
		name, list, id string
		what           impl.Command
		rank           int
		deps           string
	}{
		{"no entries", "", "a", put(1, 1), 1, ""},
		{"reading, against all kinds", ways, "z", read(1), 5, "df"},
		{"putting, against all kinds", ways, "z", put(1, 1), 6, "bdf"},
		{"adding, against all kinds", ways, "z", add(1, 1), 6, "bd"},
		{"nothing, against all kinds", ways, "z", none(), 1, ""},
		{"reading another key", ways, "z", read(2), 9, "ln"},
		{"putting at another key", ways, "z", put(2, 0), 10, "jln"},
		{"adding at another key", ways, "z", add(2, 0), 10, "jl"},
		{"a key that no entry has", ways, "z", put(3, 1), 1, ""},
		{"the key of what does nothing", ways, "z", put(0, 0), 1, ""},
		{"an id ahead of all", ways, "a", put(1, 1), 6, "bdf"},
		{"an id between two", ways, "e", put(1, 1), 6, "bdf"},
		{"the id of the greatest rank", ways, "b", put(1, 1), 5, "df"},
		{"the id of a lesser rank", ways, "d", put(1, 1), 6, "bf"},
		{"the id of the least rank", ways, "f", put(1, 1), 6, "bd"},
		{"the id of an entry that does not clash", ways, "h", put(1, 1), 6, "bdf"},
		{"the id of the only entry that clashes", "b5r1 d4p2", "b", put(1, 1), 1, ""},
		{"another id than that of the only entry that clashes", "b5r1 d4p2", "d", put(1, 1), 6, "b"},
		{"the id of one of two that clash", "b5p1 d4p1", "b", put(1, 1), 5, "d"},
		{"only entries that do nothing", "a9n b8n", "z", put(0, 0), 1, ""},
		{"nothing, and only entries that do nothing", "a9n b8n", "z", none(), 1, ""},
		{"nothing, at an id that is there", "a9n b8p0", "b", none(), 1, ""},
		{"reading, and only entries that read", "a9r1 b8r1", "z", read(1), 1, ""},
		{"adding, and only entries that add", "a9a1 b8a1", "z", add(1, 1), 1, ""},
		{"what the entries depend on does not count", "a9p1-xyz b2r2-vw", "z", put(1, 0), 10, "a"},
		{"equal ranks", "a7p1 b7p1 c7p1", "z", read(1), 8, "abc"},
		{"the greatest rank at the beginning", "a9p1 b7p1 c8p1", "z", read(1), 10, "abc"},
		{"the greatest rank in the middle", "a7p1 b9p1 c8p1", "z", read(1), 10, "abc"},
		{"the greatest rank at the end", "a7p1 b8p1 c9p1", "z", read(1), 10, "abc"},
		{"the greatest rank does not clash", "a7p1 b90p2 c9p1", "z", read(1), 10, "ac"},
		{"the least rank", "a1p1", "z", read(1), 2, "a"},
		{"a rank of SeqMax-1", "a98p1 b3p1", "z", read(1), 99, "ab"},
		{"a rank of SeqMax", "a99p1 b3p1", "z", read(1), 0, ""},
		{"a rank of SeqMax at the end", "a3p1 b99p1", "z", read(1), 0, ""},
		{"all ranks are SeqMax", "a99p1 b99p1 c99p1", "z", read(1), 0, ""},
		{"a rank of SeqMax at another key", "a99p2 b3p1", "z", read(1), 4, "b"},
		{"a rank of SeqMax of what reads, too", "a99r1 b3p1", "z", read(1), 4, "b"},
		{"a rank of SeqMax of what does nothing", "a99n b3p1", "z", read(1), 4, "b"},
		{"a rank of SeqMax, and nothing to do", "a99p1 b3p1", "z", none(), 1, ""},
		{"a rank of SeqMax at the id", "a99p1 b3p1", "a", read(1), 4, "b"},
		{"a rank of SeqMax at the id alone", "a99p1", "a", put(1, 1), 1, ""},
		{"a rank of SeqMax at the id, and one more", "a99p1 b99p1", "a", put(1, 1), 0, ""},
		{"a rank of SeqMax-1 at the id, and one of SeqMax", "a98p1 b99p1", "a", put(1, 1), 0, ""},
		{"a rank of SeqMax at the id, and one of SeqMax-1", "a98p1 b99p1", "b", put(1, 1), 99, "a"},
		{"a full log", many + " l12p1", "z", read(1), 13, "abcdefghijkl"},
		{"a full log, at an id that is there", many + " l12p1", "l", read(1), 12, "abcdefghijk"},
		{"a log with room for one", many, "l", read(1), 12, "abcdefghijk"},
	} {
		list := logOf(test.list)
		rank, deps, ok := impl.LogAttrs(list, letter(test.id[0]), test.what)
		if ok != (test.rank > 0) || rank != test.rank || asLetters(deps) != test.deps {
			t.Errorf("%s: LogAttrs is %d, %v, %v", test.name, rank, deps, ok)
		}
		if ok {
			checkAttrsWords(t, list, letter(test.id[0]), test.what)
		}
		checkAttrs(t, list, letter(test.id[0]), test.what)
		checkLog(t, list)
	}
}

// Each ballot, status and value of what clashes counts alike.
func TestLogAttrsOtherParts(t *testing.T) {
	for _, status := range []int{1, 2, 3} {
		for _, ballot := range []int{0, 1, 999} {
			for value := range 100 {
				list := []impl.Entry{{Id: id(1, 9), Ballot: ballot, Status: status, What: put(4, value), Seq: 12}}
				for _, c := range []impl.Command{read(4), put(4, 99-value), put(4, value), add(4, value)} {
					if rank, deps, ok := impl.LogAttrs(list, id(0, 1), c); !ok || rank != 13 || !slices.Equal(deps, []impl.Id{id(1, 9)}) {
						t.Fatalf("LogAttrs(%v, %v) is %d, %v, %v", list, c, rank, deps, ok)
					}
				}
			}
		}
	}
}

// Each two valid commands, at a log of one entry and at its own id.
func TestLogAttrsClash(t *testing.T) {
	few := append(askedCommands(), validCommands()[:40]...)
	for _, c := range validCommands() {
		list := []impl.Entry{{Id: id(3, 3), Status: 3, What: c, Seq: 41}}
		for _, other := range few {
			checkAttrs(t, list, id(3, 4), other)
			checkAttrs(t, list, id(3, 3), other)
		}
	}
}

// The rank for each greatest rank, of what clashes and of what does not.
func TestLogAttrsRanks(t *testing.T) {
	for rank := 1; rank <= 99; rank++ {
		list := alike([]impl.Id{id(0, 9), id(2, 1), id(4, 4)}, put(1, 1), rank)
		list[0].Seq, list[2].Seq = 1, (rank+1)/2
		got, deps, ok := impl.LogAttrs(list, id(3, 3), add(1, 0))
		if rank == 99 {
			wantNoAttrs(t, list, id(3, 3), add(1, 0))
		} else if !ok || got != rank+1 || len(deps) != 3 {
			t.Errorf("with the rank %d, LogAttrs is %d, %v, %v", rank, got, deps, ok)
		}
		list[1].What = put(2, 1)
		if got, deps, ok := impl.LogAttrs(list, id(3, 3), add(1, 0)); !ok || got != (rank+1)/2+1 || len(deps) != 2 {
			t.Errorf("with the rank %d elsewhere, LogAttrs is %d, %v, %v", rank, got, deps, ok)
		}
	}
}

// Invalid ids, commands and logs, alone and together.
func TestLogAttrsInvalid(t *testing.T) {
	bad := logOf("d2p1 a1p1")
	for _, list := range [][]impl.Entry{nil, logOf("a1p1 d2p1-a"), logOf("a99n"), alike(validIds()[:12], read(1), 1)} {
		for _, a := range invalidIds() {
			wantNoAttrs(t, list, a, put(1, 1))
			wantNoAttrs(t, list, a, none())
			wantNoAttrs(t, bad, a, none())
			wantNoAttrs(t, list, a, impl.Command{Kind: 4})
		}
		for _, c := range invalidCommands() {
			wantNoAttrs(t, list, id(1, 1), c)
			wantNoAttrs(t, list, id(0, 10), c)
			wantNoAttrs(t, bad, id(1, 1), c)
		}
	}
	for _, e := range logOf("a1p1 d2p1-a y5p1-adex") {
		for _, wrong := range spoiledEntries(e) {
			wantNoAttrs(t, []impl.Entry{wrong}, e.Id, put(1, 1))
			wantNoAttrs(t, []impl.Entry{wrong}, id(2, 2), none())
		}
	}
}

// A command that does nothing has the rank 1, and depends on nothing.
func TestLogAttrsNothing(t *testing.T) {
	for _, list := range append(listsOfLogs(), someLogs(54, 5)...) {
		for _, a := range validIds() {
			if rank, deps, ok := impl.LogAttrs(list, a, none()); !ok || rank != 1 || len(deps) != 0 {
				t.Fatalf("LogAttrs(%v, %v, none) is %d, %v, %v", list, a, rank, deps, ok)
			}
		}
	}
}

// roomyLog returns a log in a longer memory, where each entry depends on ids in a longer memory, and all of that memory.
func roomyLog(list []impl.Entry) ([]impl.Entry, []impl.Entry, [][]impl.Id) {
	whole := append(make([]impl.Entry, 0, len(list)+20), list...)
	var rows [][]impl.Id
	for i, e := range list {
		given, row := roomy(e.Deps)
		whole[i].Deps = given
		rows = append(rows, row)
	}
	whole = append(whole, entryOf("z99p5"), impl.Entry{Id: id(-1, 99), Status: -1})
	return whole[:len(list)], whole, rows
}

// spoilLog changes all entries of a slice, what they depend on, and what is behind its end.
func spoilLog(list []impl.Entry) {
	bad := impl.Entry{Id: id(-77, -77), Ballot: -77, Status: -77, What: impl.Command{Kind: -77}, Seq: -77, Deps: []impl.Id{id(-77, -77)}}
	for i := range list {
		spoilIds(list[i].Deps)
		list[i] = bad
	}
	for i, far := len(list), append(list, bad, bad); i < len(far); i++ {
		far[i] = impl.Entry{Seq: -78}
	}
	for i, all := len(list), list[:cap(list)]; i < len(all); i++ {
		all[i] = impl.Entry{Seq: -79}
	}
}

// entryResults lists the results of all functions for a log and some entries, each as a log.
func entryResults(list, puts []impl.Entry) [][]impl.Entry {
	var results [][]impl.Entry
	for _, e := range puts {
		found, _ := impl.LogFind(list, e.Id)
		after, _ := impl.LogPut(list, e)
		rank, deps, _ := impl.LogAttrs(list, e.Id, e.What)
		results = append(results, []impl.Entry{found}, after[:cap(after)], []impl.Entry{{Seq: rank, Deps: deps}})
		impl.EntryValid(e)
	}
	impl.LogValid(list)
	return results
}

func deepLogs(logs [][]impl.Entry) [][]impl.Entry {
	var copied [][]impl.Entry
	for _, list := range logs {
		copied = append(copied, deepLog(list))
	}
	return copied
}

func sameLogs(a, b [][]impl.Entry) bool { return slices.EqualFunc(a, b, sameLog) }

// checkLogMemory checks that none of the functions that make some results changes its arguments, or gives out their memory or that of another result.
func checkLogMemory(t *testing.T, list, puts []impl.Entry, results func(list, puts []impl.Entry) [][]impl.Entry) {
	t.Helper()
	given, whole, rows := roomyLog(list)
	entries, _, entryRows := roomyLog(puts)
	arguments := [][]impl.Entry{whole, entries}
	rows = append(rows, entryRows...)
	before, rowsBefore, roomsBefore := deepLogs(arguments), deepRows(rows), roomsOf(reflect.ValueOf(arguments))
	unchanged := func() bool {
		// What entries depend on must not even have been moved, or lost capacity.
		return sameLogs(arguments, before) && sameRows(rows, rowsBefore) && slices.Equal(roomsOf(reflect.ValueOf(arguments)), roomsBefore)
	}
	first, second := results(given, entries), results(given, entries)
	want := deepLogs(second)
	if !unchanged() || sharing(whole, entries, first, second) || !sameLogs(first, second) {
		t.Fatalf("a function of %v changes or shares what it is given", list)
	}
	for i, result := range first {
		spoilLog(result)
		if !unchanged() || !sameLogs(second, want) || !sameLogs(first[i+1:], want[i+1:]) {
			t.Fatalf("behind a function of %v, its result changes an argument or another result", list)
		}
	}
	for _, row := range rows {
		spoilIds(row)
	}
	spoilLog(given)
	spoilLog(entries)
	if !sameLogs(second, want) {
		t.Fatalf("behind a function of %v, its argument changes a result", list)
	}
}

// putsFor lists entries to put into a log: instead of each one, beside each one, and one that is invalid.
func putsFor(list []impl.Entry) []impl.Entry {
	puts := []impl.Entry{asEntry(id(0, 1)), asEntry(id(4, 50)), entryOf("m3r1-abc"), {Id: id(5, 5), Deps: lettersOf("ab")}}
	for _, e := range list {
		puts = append(puts, e, asEntry(e.Id), asEntry(id(e.Id.Replica, e.Id.Number%50+1)))
	}
	return puts
}

// Also for logs that are invalid, and where a function fails.
func TestLogMemory(t *testing.T) {
	lists := append(listsOfLogs(), logOf("b1n a1n"), logOf("a1n-a b1n"), logOf("a0n-b b1n"), logOf("a1n-cb b1n c1n"), logOf("a99p1-b b1p1-a"), alike(validIds()[:13], none(), 1))
	for _, list := range lists {
		checkLogMemory(t, list, putsFor(list), entryResults)
	}
}

// Entries of a log, and the one to put, may depend on the same memory, or on parts of it that overlap.
func TestLogOneMemory(t *testing.T) {
	deps, whole := roomy(lettersOf("abcd"))
	list := []impl.Entry{
		{Id: letter('e'), Status: 1, What: put(1, 1), Seq: 1, Deps: deps},
		{Id: letter('f'), Status: 2, What: put(1, 2), Seq: 2, Deps: deps[1:3]},
		{Id: letter('g'), Status: 3, What: put(1, 3), Seq: 3, Deps: deps[:0]},
		{Id: letter('h'), Status: 3, What: read(1), Seq: 4, Deps: deps[2:]},
	}
	before, idsBefore := deepLog(list), slices.Clone(whole)
	for _, e := range append(slices.Clone(list), impl.Entry{Id: letter('m'), Status: 1, What: add(1, 1), Seq: 9, Deps: deps}) {
		want, _ := wantPut(before, deepEntry(e))
		want = deepLog(want)
		results := entryResults(list, []impl.Entry{e})
		if !sameLog(results[1], want) || sharing(whole, results) {
			t.Fatalf("LogPut(%v, %v) is %v, or a function shares what it is given", list, e, results[1])
		}
		spoilLog(results[1][:1:1])
		if !sameLog(results[1][1:], want[1:]) {
			t.Fatalf("behind LogPut(%v, %v), one entry of the result changes another one", list, e)
		}
		for _, result := range results {
			spoilLog(result)
		}
		if !sameLog(list, before) || !slices.Equal(whole, idsBefore) {
			t.Fatalf("behind a function of %v, its result changes an argument", before)
		}
	}
}

// The same call gives the same result, however often it is made.
func TestLogAgain(t *testing.T) {
	for _, list := range someLogs(50, 1) {
		puts := putsFor(list)
		want := entryResults(list, puts)
		for range 20 {
			if got := entryResults(list, puts); !sameLogs(got, want) {
				t.Fatalf("a function of %v returns different results", list)
			}
		}
	}
}

// entriesOfBytes makes entries of bytes, valid or not: of each five a letter, a rank, a command, a ballot and a status, and how many of the next letters it depends on.
func entriesOfBytes(bytes []byte) []impl.Entry {
	var list []impl.Entry
	for ; len(bytes) >= 5; bytes = bytes[5:] {
		what := impl.Command{Kind: int(bytes[2]) % 5, Key: int(bytes[2]) / 5 % 7}
		if what.Kind == 1 || what.Kind == 2 {
			what.Value = int(bytes[3]) % 101
		}
		if what.Kind == 3 {
			what.Key /= 6
		}
		e := impl.Entry{Id: letter('a' + bytes[0]%14), Ballot: 4*int(bytes[3]) - 5, Status: int(bytes[0]) / 14 % 5, What: what, Seq: int(bytes[1]) % 101}
		for i := range 8 {
			if bytes[4]>>i&1 == 1 {
				e.Deps = append(e.Deps, letter('a'+byte(i)+bytes[1]%6))
			}
		}
		list = append(list, e)
	}
	return list
}

func FuzzEntries(f *testing.F) {
	f.Add([]byte{}, false)
	f.Add([]byte{14, 6, 6, 9, 2, 15, 6, 7, 200, 1, 30, 99, 5, 3, 0}, true)
	f.Add([]byte{14, 1, 0, 4, 0, 14, 1, 0, 4, 0}, false)
	f.Add([]byte{17, 1, 6, 4, 1, 16, 1, 6, 4, 1}, false)
	f.Add([]byte{20, 98, 6, 4, 1, 22, 98, 6, 4, 1, 24, 99, 11, 4, 0}, true)
	f.Fuzz(func(t *testing.T, bytes []byte, sort bool) {
		// Far more entries than LogMax would only take long.
		list := entriesOfBytes(bytes[:min(90, len(bytes))])
		if sort {
			slices.SortFunc(list, func(x, y impl.Entry) int { return places[x.Id] - places[y.Id] })
			list = slices.CompactFunc(list, func(x, y impl.Entry) bool { return x.Id == y.Id })
		}
		checkLog(t, list)
		for _, e := range list {
			checkPut(t, list, e)
			checkPut(t, nil, e)
			if _, ok := wantPut(list, e); ok {
				checkPutWords(t, list, e)
			}
			if _, _, ok := wantAttrs(list, e.Id, e.What); ok {
				checkAttrsWords(t, list, e.Id, e.What)
			}
		}
		checkLogMemory(t, list, putsFor(list), entryResults)
	})
}
