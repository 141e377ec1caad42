package tests

import (
	"math/rand"
	"reflect"
	"slices"
	"strings"
	"testing"

	"loop.example/leaderlesslog/impl"
)

// wantState reports whether a state is valid, by the words of the document.
func wantState(state []int) bool {
	return len(state) == 6 && !slices.ContainsFunc(state, func(value int) bool { return value < 0 || value > 999 })
}

// fixedOf lists the entries of a log that are fixed.
func fixedOf(list []impl.Entry) []impl.Entry {
	fixed := []impl.Entry{}
	for _, e := range list {
		if e.Status == 3 {
			fixed = append(fixed, e)
		}
	}
	return fixed
}

// graphOf returns entries as nodes, whatever their status is.
func graphOf(list []impl.Entry) []impl.Node {
	var nodes []impl.Node
	for _, e := range list {
		nodes = append(nodes, impl.Node{Id: e.Id, Seq: e.Seq, Deps: e.Deps})
	}
	return nodes
}

// wantExec returns what ExecOrder and ExecWaits have to return, by the words of the document.
func wantExec(list []impl.Entry) ([]impl.Id, []impl.Id) {
	if !wantLog(list) {
		return nil, nil
	}
	o := oracleOf(graphOf(fixedOf(list)))
	return o.wantOrder(), o.sorted(func(a impl.Id) bool { return !o.wantReady(a) })
}

// wantExecLog returns what ExecLog has to return, by the words of the document.
func wantExecLog(list []impl.Entry, state []int) ([]int, []impl.Result, bool) {
	if !wantLog(list) || !wantState(state) {
		return nil, nil, false
	}
	after, results := slices.Clone(state), []impl.Result{}
	order, _ := wantExec(list)
	for _, a := range order {
		e, _ := wantFind(list, a)
		next, value := wantStep(after, e.What)
		after, results = next, append(results, impl.Result{Id: a, Value: value})
	}
	return after, results, true
}

// fewStates lists valid states in which each value is another one, and in which sums begin again.
func fewStates() [][]int {
	return [][]int{{0, 0, 0, 0, 0, 0}, {101, 202, 303, 404, 505, 606}, {999, 998, 950, 901, 900, 1}}
}

// checkExecLog holds ExecLog against the document.
func checkExecLog(t *testing.T, list []impl.Entry, state []int) {
	t.Helper()
	before := slices.Clone(state)
	want, wantResults, wantOk := wantExecLog(list, state)
	after, results, ok := impl.ExecLog(list, state)
	if ok != wantOk || !slices.Equal(after, want) || !slices.Equal(results, wantResults) {
		t.Fatalf("ExecLog(%v, %v) is %v, %v, %v, not %v, %v, %v", list, state, after, results, ok, want, wantResults, wantOk)
	}
	if !slices.Equal(state, before) {
		t.Fatalf("ExecLog of the state %v makes it %v", before, state)
	}
}

// checkExec holds all functions of a log, whatever it is, against the document.
func checkExec(t *testing.T, list []impl.Entry) {
	t.Helper()
	before := deepLog(list)
	wantOrder, wantWaits := wantExec(list)
	if got := impl.ExecOrder(list); !slices.Equal(got, wantOrder) {
		t.Fatalf("ExecOrder(%v) is %v, not %v", list, got, wantOrder)
	}
	if got := impl.ExecWaits(list); !slices.Equal(got, wantWaits) {
		t.Fatalf("ExecWaits(%v) is %v, not %v", list, got, wantWaits)
	}
	for _, state := range fewStates() {
		checkExecLog(t, list, state)
	}
	if !sameLog(list, before) {
		t.Fatalf("the log %v becomes %v", before, list)
	}
}

// wantNoExec checks that all functions tell that a log is invalid, for any state.
func wantNoExec(t *testing.T, list []impl.Entry) {
	t.Helper()
	if wantLog(list) {
		t.Fatalf("%v should be invalid", list)
	}
	if order, waits := impl.ExecOrder(list), impl.ExecWaits(list); len(order) != 0 || len(waits) != 0 {
		t.Fatalf("ExecOrder(%v) is %v, and ExecWaits %v", list, order, waits)
	}
	for _, state := range append(fewStates(), nil, []int{1, 2, 3, 4, 5}, []int{-1, 0, 0, 0, 0, 1000}) {
		wantNoExecLog(t, list, state)
	}
}

// wantNoExecLog checks that ExecLog fails, with zero values.
func wantNoExecLog(t *testing.T, list []impl.Entry, state []int) {
	t.Helper()
	if after, results, ok := impl.ExecLog(list, state); ok || len(after) != 0 || len(results) != 0 {
		t.Fatalf("ExecLog(%v, %v) is %v, %v, %v", list, state, after, results, ok)
	}
}

// checkRunWords holds a valid log against the promises 91 to 93, and what the document says of the order.
func checkRunWords(t *testing.T, list []impl.Entry) {
	t.Helper()
	order, waits, nodes := impl.ExecOrder(list), impl.ExecWaits(list), graphOf(fixedOf(list))
	if !slices.Equal(order, impl.NodesOrder(nodes)) || !impl.DepsValid(waits) {
		t.Fatalf("ExecOrder(%v) is %v, and ExecWaits %v", list, order, waits)
	}
	for i, a := range order {
		e, found := impl.LogFind(list, a)
		if !found || e.Status != impl.StatusFixed || slices.Contains(order[:i], a) {
			t.Fatalf("ExecOrder(%v) is %v, with %v", list, order, a)
		}
		for _, b := range e.Deps {
			if !slices.Contains(order, b) || !slices.Contains(order[:i], b) && !slices.Contains(impl.NodesGroup(nodes, a), b) {
				t.Fatalf("ExecOrder(%v) is %v, and %v depends on %v", list, order, a, b)
			}
		}
	}
	for _, e := range list {
		runs, stays := slices.Contains(order, e.Id), slices.Contains(waits, e.Id)
		if runs && stays || (runs || stays) != (e.Status == impl.StatusFixed) || stays != (e.Status == impl.StatusFixed && !impl.NodesReady(nodes, e.Id)) {
			t.Fatalf("ExecOrder(%v) is %v, and ExecWaits %v, wrong of %v", list, order, waits, e.Id)
		}
	}
	if many := len(order) + len(waits); many != len(fixedOf(list)) {
		t.Fatalf("ExecOrder(%v) is %v, and ExecWaits %v", list, order, waits)
	}
}

// checkOneMoreWords holds a valid log and one with one more entry that is fixed against promise 94.
func checkOneMoreWords(t *testing.T, list []impl.Entry, one impl.Id, more []impl.Entry) {
	t.Helper()
	order, waits := impl.ExecOrder(list), impl.ExecWaits(list)
	after, left := impl.ExecOrder(more), impl.ExecWaits(more)
	old := slices.DeleteFunc(slices.Clone(after), func(a impl.Id) bool { return !slices.Contains(order, a) })
	if !slices.Equal(old, order) {
		t.Fatalf("ExecOrder(%v) is %v, and with %v it is %v", list, order, one, after)
	}
	for _, a := range after {
		if a != one && !slices.Contains(order, a) && !slices.Contains(waits, a) {
			t.Fatalf("ExecOrder(%v) is %v, and with %v it is %v", list, order, one, after)
		}
	}
	for _, a := range waits {
		// What one waits for is all that it and what it reaches depends on, without being fixed.
		missing, nodes := map[impl.Id]bool{}, graphOf(fixedOf(list))
		for _, b := range append(impl.NodesReach(nodes, a), a) {
			for _, c := range depsOf(nodes, b) {
				missing[c] = missing[c] || !slices.Contains(idsOfNodes(nodes), c)
			}
		}
		for c, is := range missing {
			if !is || c == one {
				delete(missing, c)
			}
		}
		reaches := slices.Contains(impl.NodesReach(graphOf(fixedOf(more)), a), one)
		if runs := len(missing) == 0 && !slices.Contains(left, one); runs != slices.Contains(after, a) || !reaches && runs {
			t.Fatalf("with %v, ExecOrder(%v) is %v, and %v waits for %v", one, more, after, a, missing)
		}
	}
}

// checkMoreWords holds a valid log against promise 94, for each of its entries and for new ones.
func checkMoreWords(t *testing.T, list, others []impl.Entry) {
	t.Helper()
	for _, e := range slices.Concat(list, others) {
		e.Status = impl.StatusFixed
		if there, found := impl.LogFind(list, e.Id); found && there.Status == impl.StatusFixed {
			continue
		}
		if more, ok := impl.FixEntry(list, e); ok {
			checkExec(t, more)
			checkRunWords(t, more)
			checkOneMoreWords(t, list, e.Id, more)
		}
	}
}

// checkStateWords holds a valid log against the promises 95 to 97.
func checkStateWords(t *testing.T, list []impl.Entry, state []int) {
	t.Helper()
	order, commands := impl.ExecOrder(list), []impl.Command{}
	for _, a := range order {
		e, _ := impl.LogFind(list, a)
		commands = append(commands, e.What)
	}
	after, results, ok := impl.ExecLog(list, state)
	want, values, fine := impl.StateRun(state, commands)
	if !ok || !fine || !slices.Equal(after, want) || len(results) != len(order) || !impl.StateValid(after) {
		t.Fatalf("ExecLog(%v, %v) is %v, %v, %v, and StateRun %v, %v, %v", list, state, after, results, ok, want, values, fine)
	}
	for i, a := range order {
		if results[i] != (impl.Result{Id: a, Value: values[i]}) {
			t.Fatalf("ExecLog(%v, %v) has the results %v, and StateRun %v", list, state, results, values)
		}
	}
	only, same, fine := impl.ExecLog(fixedOf(list), state)
	if !fine || !slices.Equal(only, after) || !slices.Equal(same, results) {
		t.Fatalf("ExecLog(%v, %v) is %v, %v, and without what is not fixed it is %v, %v, %v", list, state, after, results, only, same, fine)
	}
	if none, nothing, fine := impl.ExecLog(nil, after); !fine || !slices.Equal(none, after) || len(nothing) != 0 {
		t.Fatalf("ExecLog of no entries and %v is %v, %v, %v", after, none, nothing, fine)
	}
}

// checkBareWords holds a valid log against promise 98.
func checkBareWords(t *testing.T, list []impl.Entry) {
	t.Helper()
	bare := deepLog(list)
	for i := range bare {
		bare[i].Status, bare[i].Deps = impl.StatusFixed, nil
	}
	order := impl.ExecOrder(bare)
	if want := oracleOf(graphOf(bare)).bySoonest(idsOfLog(bare)); !slices.Equal(order, want) || len(impl.ExecWaits(bare)) != 0 {
		t.Fatalf("ExecOrder(%v) is %v, and ExecWaits %v", bare, order, impl.ExecWaits(bare))
	}
}

// checkExecWords holds a valid log against all promises of chapter 16.
func checkExecWords(t *testing.T, list []impl.Entry) {
	t.Helper()
	if !impl.LogValid(list) {
		t.Fatalf("%v is not valid", list)
	}
	checkRunWords(t, list)
	checkMoreWords(t, list, nil)
	for _, state := range fewStates() {
		checkStateWords(t, list, state)
	}
	checkBareWords(t, list)
}

// stepOf returns the entry of a word: the first letter of its status, s, t or f, and what entryOf reads.
func stepOf(word string) impl.Entry {
	return changed(entryOf(word[1:]), func(e *impl.Entry) { e.Status = 1 + strings.IndexByte("stf", word[0]) })
}

// stepLog returns the log of a text with a word for each entry.
func stepLog(text string) []impl.Entry {
	list := []impl.Entry{}
	for _, word := range strings.Fields(text) {
		list = append(list, stepOf(word))
	}
	return list
}

// entriesOf returns nodes as entries with a status, with commands of all kinds in turn, and ballots that have nothing to do with the order.
func entriesOf(nodes []impl.Node, status int) []impl.Entry {
	list := []impl.Entry{}
	for i, n := range nodes {
		what := []impl.Command{put(1, 7*i), add(1, 3+i), read(1), put(2, 5+i), none(), add(2, 9*i)}[(i*5+n.Seq)%6]
		list = append(list, impl.Entry{Id: n.Id, Ballot: (991 * (i + 1)) % 1000, Status: status, What: what, Seq: n.Seq, Deps: slices.Clone(n.Deps)})
	}
	return list
}

// someSteps lists valid logs whose entries depend on each other, with each status, most of them fixed.
func someSteps(seed int64, times int) [][]impl.Entry {
	random := rand.New(rand.NewSource(seed))
	var lists [][]impl.Entry
	for _, nodes := range someGraphs(seed, times) {
		list := entriesOf(nodes, impl.StatusFixed)
		seldom := 1 + random.Intn(12)
		for i := range list {
			list[i].What, list[i].Ballot = manyCommands(random, 1)[0], random.Intn(1000)
			if random.Intn(seldom) == 0 {
				list[i].Status = 1 + random.Intn(3)
			}
		}
		lists = append(lists, list)
	}
	return lists
}

// listsOfSteps lists valid logs: those of the tables below, those of other chapters, and others.
func listsOfSteps() [][]impl.Entry {
	lists := append(listsOfLogs(), entriesOf(largest(func(i int) int { return 99 - i }), impl.StatusFixed))
	for _, test := range slices.Concat(partTests(), waitTests()) {
		lists = append(lists, stepLog(test.log))
	}
	for i, test := range graphTests() {
		list := entriesOf(graph(test.nodes), impl.StatusFixed)
		list[i%len(list)].Status = 1 + i%3
		lists = append(lists, list)
	}
	return append(lists, someSteps(91, 4)...)
}

// The helpers themselves must see what the tests rely on.
func TestExecHelpers(t *testing.T) {
	list := stepLog("sa3p1 tb4r1-a fd5a1-ab")
	if !wantLog(list) || !sameEntry(list[2], impl.Entry{Id: letter('d'), Ballot: 111, Status: 3, What: add(1, 11), Seq: 5, Deps: lettersOf("ab")}) || list[0].Status != 1 || list[1].Status != 2 {
		t.Errorf("stepLog is %v", list)
	}
	if fixed := fixedOf(list); !sameLog(fixed, list[2:]) || !sameNodes(graphOf(fixed), graph("d5ab")) {
		t.Errorf("fixedOf is %v", fixed)
	}
	order, waits := wantExec(stepLog("fa3p1 fb4r1-a tc5r1 fd6r1-c"))
	if asLetters(order) != "ab" || asLetters(waits) != "d" {
		t.Errorf("wantExec is %v, %v", order, waits)
	}
	if order, waits := wantExec(stepLog("fb3p1 fa3p1")); len(order)+len(waits) != 0 {
		t.Errorf("wantExec of an invalid log is %v, %v", order, waits)
	}
	state, results, ok := wantExecLog(stepLog("fa3p1 fb4a1-a fc5r1-b"), []int{1, 2, 3, 4, 5, 6})
	if want := []impl.Result{{Id: letter('a')}, {Id: letter('b')}, {Id: letter('c'), Value: 6}}; !ok || !slices.Equal(state, []int{1, 6, 3, 4, 5, 6}) || !slices.Equal(results, want) {
		t.Errorf("wantExecLog is %v, %v, %v", state, results, ok)
	}
	for _, state := range invalidStates() {
		if wantState(state) {
			t.Errorf("%v is held to be valid", state)
		}
	}
	for _, state := range append(validStates(), fewStates()...) {
		if !wantState(state) {
			t.Errorf("%v is held to be invalid", state)
		}
	}
	runs, stays, others := 0, 0, 0
	for _, list := range listsOfSteps() {
		order, waits := wantExec(list)
		runs, stays, others = runs+len(order), stays+len(waits), others+len(list)-len(order)-len(waits)
		if !wantLog(list) {
			t.Errorf("%v is not valid", list)
		}
	}
	if runs < 400 || stays < 200 || others < 200 {
		t.Errorf("of all entries, only %d run, %d wait and %d are not fixed", runs, stays, others)
	}
}

// No entries, nil and empty, have nothing to run, and leave each state as it is.
func TestExecNone(t *testing.T) {
	for _, list := range [][]impl.Entry{nil, {}, make([]impl.Entry, 0, 12), stepLog("fa1p1 fb2p1")[:0]} {
		if order, waits := impl.ExecOrder(list), impl.ExecWaits(list); len(order) != 0 || len(waits) != 0 {
			t.Errorf("ExecOrder of no entries is %v, and ExecWaits %v", order, waits)
		}
		for _, state := range validStates() {
			if after, results, ok := impl.ExecLog(list, state); !ok || !slices.Equal(after, state) || len(results) != 0 {
				t.Errorf("ExecLog of no entries and %v is %v, %v, %v", state, after, results, ok)
			}
		}
		checkExecWords(t, list)
	}
}

// Where nothing is fixed, nothing runs and nothing waits, whatever is proposed or taken.
func TestExecNothingFixed(t *testing.T) {
	for _, list := range listsOfSteps() {
		for _, statuses := range [][]int{{1}, {2}, {1, 2}, {2, 2, 1}} {
			list = deepLog(list)
			for i := range list {
				list[i].Status = statuses[i%len(statuses)]
			}
			if order, waits := impl.ExecOrder(list), impl.ExecWaits(list); len(order) != 0 || len(waits) != 0 {
				t.Fatalf("ExecOrder(%v) is %v, and ExecWaits %v", list, order, waits)
			}
			for _, state := range fewStates() {
				if after, results, ok := impl.ExecLog(list, state); !ok || !slices.Equal(after, state) || len(results) != 0 {
					t.Fatalf("ExecLog(%v, %v) is %v, %v, %v", list, state, after, results, ok)
				}
			}
			checkExec(t, list)
		}
	}
}

// The tables of chapter 5, where all entries are fixed: what does not run waits.
func TestExecGraphTables(t *testing.T) {
	for _, test := range graphTests() {
		list := entriesOf(graph(test.nodes), impl.StatusFixed)
		waits := ""
		for _, a := range idsOfLog(list) {
			if own := asLetters([]impl.Id{a}); !strings.Contains(test.ready, own) {
				waits += own
			}
		}
		if got := asLetters(impl.ExecOrder(list)); got != test.order {
			t.Errorf("%s: ExecOrder is %q, not %q", test.name, got, test.order)
		}
		if got := asLetters(impl.ExecWaits(list)); got != waits {
			t.Errorf("%s: ExecWaits is %q, not %q", test.name, got, waits)
		}
		checkExec(t, list)
		checkExecWords(t, list)
	}
}

// execTest is a table row: a log, and the letters of what runs and of what waits.
type execTest struct {
	name, log, order, waits string
}

// partTests are logs of which only a part is fixed, and nothing waits.
func partTests() []execTest {
	return []execTest{
		{"one that is fixed", "fc5p1", "c", ""},
		{"one that is proposed", "sc5p1", "", ""},
		{"one that is taken", "tc5p1", "", ""},
		{"the first one is fixed", "fa3p1 sb2p1 tc1p1", "a", ""},
		{"the middle one is fixed", "sa3p1 fb2p1 tc1p1", "b", ""},
		{"the last one is fixed", "ta3p1 sb2p1 fc1p1", "c", ""},
		{"all but the first one are fixed", "sa1p1 fb3p1 fc2p1", "cb", ""},
		{"all but the middle one are fixed", "fa3p1 tb1p1 fc2p1", "ca", ""},
		{"all but the last one are fixed", "fa3p1 fb2p1 sc1p1", "ba", ""},
		{"all are fixed", "fa3p1 fb2p1 fc1p1", "cba", ""},
		{"each second one of 12", "fa9n sb9n fc8n td9n fe7n sf1n fg6n th9n fi5n sj1n fk4n sl9n", "kigeca", ""},
		{"what is not fixed depends on what is", "fa1p1 sb2p1-a tc3p1-ab", "a", ""},
		{"what is not fixed depends on what is missing", "fa1p1 sb2p1-z tc3p1-xyz", "a", ""},
		{"what is not fixed depends on each other", "fa1p1 sb2p1-c tc3p1-b", "a", ""},
		{"the same ranks, so that ids decide", "fa5p1 fb5r1 fc5a1 fd5n", "abcd", ""},
		{"by rank, and then by id", "fa5p1 fb4r1 fc5a1 fd4n fe1n", "ebdac", ""},
		{"ranks contradict what is depended on", "fa4p1 fb3p1-a fc2p1-b fd1p1-c", "abcd", ""},
		{"ranks and ids contradict what is depended on", "fa1p1-b fb2p1-c fc3p1-d fd4p1", "dcba", ""},
		{"a group of two", "fa2p1-b fb1r1-a", "ba", ""},
		{"a group of three with the same ranks", "fa2p1-b fb2p1-c fc2p1-a", "abc", ""},
		{"a group that waits for a group runs behind it", "fa1p1-b fb1p1-ac fc9p1-d fd8p1-c", "dcab", ""},
		{"a group and one beside it", "fa3p1-c fb2p1 fc1p1-a", "cab", ""},
		{"ballots do not count", "fa2p1 fz1p1", "za", ""},
	}
}

// waitTests are logs in which something waits.
func waitTests() []execTest {
	return []execTest{
		{"for what the log does not have", "fa5p1-z", "", "a"},
		{"for what the log does not have, ahead of it", "fc5p1-a fd4p1", "d", "c"},
		{"for what is proposed", "sa1p1 fb2p1-a", "", "b"},
		{"for what is taken", "ta1p1 fb2p1-a", "", "b"},
		{"for what is fixed, and so it does not", "fa1p1 fb2p1-a", "ab", ""},
		{"for what is proposed behind it", "fa2p1-b sb1p1", "", "a"},
		{"for what is taken behind it", "fa2p1-b tb1p1", "", "a"},
		{"for one of two", "fa1p1 fb2p1 fc3p1-ab fd4p1-az", "abc", "d"},
		{"for one of two, which is proposed", "fa1p1 sb2p1 fc3p1-ab", "a", "c"},
		{"for one that waits", "fa1p1-z fb2p1-a", "", "ab"},
		{"for one that waits, several steps away", "fa1p1-b fb2p1-c fc3p1-d fd4p1-e se5p1", "", "abcd"},
		{"for one that waits, as many steps as there are", "sa1n fb1n-a fc1n-b fd1n-c fe1n-d ff1n-e fg1n-f fh1n-g fi1n-h fj1n-i fk1n-j fl1n-k", "", "bcdefghijkl"},
		{"a row that is broken in the middle", "fa1n fb1n-a fc1n-b td1n-c fe1n-d ff1n-e fg1n-f", "abc", "efg"},
		{"what is not fixed leads nowhere", "fa1p1 sb1p1-a fc1p1-b", "a", "c"},
		{"what is not fixed and waits itself", "fa1p1 sb1p1-z fc1p1-b", "a", "c"},
		{"a group of which one is not fixed is none", "fa1p1-b sb1p1-a", "", "a"},
		{"a group of three of which one is taken", "fa1p1-b fb1p1-c tc1p1-a", "", "ab"},
		{"a group of which one waits", "fa1p1-b fb2p1-az fc3p1", "c", "ab"},
		{"a group of which one waits for what is taken", "fa1p1-b fb2p1-ad fc3p1 td1p1", "c", "ab"},
		{"a group of three of which the last one waits", "fa1p1-b fb1p1-c fc1p1-ad sd1p1 fe1p1", "e", "abc"},
		{"what reaches a group of which one waits", "fa1p1-b fb2p1-az fc3p1-a fd4p1-c fe5p1", "e", "abcd"},
		{"a group that waits for one of which one waits", "fa1p1-b fb1p1-ac fc1p1-d fd1p1-cz fe1p1", "e", "abcd"},
		{"a group for which one waits that waits for more", "fa1p1-b fb1p1-a fc1p1-abz fd1p1-c", "ab", "cd"},
		{"one that waits does not hold up others", "fa1p1-z fb9p1 fc8p1 fd7p1-b", "cbd", "a"},
		{"sooner ones that wait do not hold up others", "fa1n-z fb1n-z fc1n-z fd99n", "d", "abc"},
		{"two that wait for different ones", "fa1p1-y fb1p1-z fc1p1", "c", "ab"},
		{"two ways, one of which is open", "fa4p1-bc fb3p1-d fc2p1-dz fd1p1", "db", "ac"},
		{"12 that wait", "fa1n-z fb1n-z fc1n-z fd1n-z fe1n-z ff1n-z fg1n-z fh1n-z fi1n-z fj1n-z fk1n-z fl1n-z", "", "abcdefghijkl"},
		{"ranks do not matter to those that wait", "fa9n-z fb1n-z fc5n-z", "", "abc"},
		{"for 12 ids that are missing", "fa1n-mnopqrstuvwx fb1n", "b", "a"},
		{"for one of 12 ids", "fa1n-bcdefghijkmz fb1n fc1n fd1n fe1n ff1n fg1n fh1n fi1n fj1n fk1n fm1n", "bcdefghijkm", "a"},
	}
}

func TestExecTables(t *testing.T) {
	for _, test := range slices.Concat(partTests(), waitTests()) {
		list := stepLog(test.log)
		if got := asLetters(impl.ExecOrder(list)); got != test.order {
			t.Errorf("%s: ExecOrder is %q, not %q", test.name, got, test.order)
		}
		if got := asLetters(impl.ExecWaits(list)); got != test.waits {
			t.Errorf("%s: ExecWaits is %q, not %q", test.name, got, test.waits)
		}
		checkExec(t, list)
		checkExecWords(t, list)
	}
}

// All logs of up to three entries, with each status, that depend on each other and on what is missing.
func TestExecOfThree(t *testing.T) {
	for many := range 4 {
		ranks := [][]int{{1, 1, 1}, {3, 2, 1}, {2, 3, 1}}
		if many < 3 {
			ranks = rowsOf(many, 2)
		}
		allGraphs("acd"[:many], "b", ranks, func(nodes []impl.Node) {
			for _, statuses := range rowsOf(many, 3) {
				list := entriesOf(nodes, impl.StatusFixed)
				for i, status := range statuses {
					list[i].Status = status
				}
				order, waits := wantExec(list)
				if got, stay := impl.ExecOrder(list), impl.ExecWaits(list); !slices.Equal(got, order) || !slices.Equal(stay, waits) {
					t.Fatalf("ExecOrder(%v) is %v, not %v, and ExecWaits %v, not %v", list, got, order, stay, waits)
				}
				checkExecLog(t, list, fewStates()[1])
				checkRunWords(t, list)
			}
		})
	}
}

// All logs of four entries that depend on each other, where all are fixed, and where one is not.
func TestExecOfFour(t *testing.T) {
	allGraphs("bcef", "", [][]int{{1, 1, 1, 1}, {4, 3, 2, 1}, {1, 3, 2, 3}}, func(nodes []impl.Node) {
		for place := range 5 {
			list := entriesOf(nodes, impl.StatusFixed)
			if place < 4 {
				list[place].Status = impl.StatusTaken
			}
			order, waits := wantExec(list)
			if got, stay := impl.ExecOrder(list), impl.ExecWaits(list); !slices.Equal(got, order) || !slices.Equal(stay, waits) {
				t.Fatalf("ExecOrder(%v) is %v, not %v, and ExecWaits %v, not %v", list, got, order, stay, waits)
			}
		}
	})
}

// Logs of all lengths, with entries of all kinds.
func TestExecAny(t *testing.T) {
	for _, list := range append(listsOfSteps(), someSteps(92, 60)...) {
		checkExec(t, list)
	}
	for _, list := range append(listsOfSteps(), someSteps(93, 10)...) {
		checkExecWords(t, list)
	}
}

// Each entry of a log, and each two of them, are the only ones that are fixed, or that are not.
func TestExecSomeFixed(t *testing.T) {
	for _, text := range []string{
		"fa1p1 fb2r1-a fc3a1-ab fd4r1-c fe5n-d", "fa5p1-b fb4p1-ac fc3a1-d fd2r1-c fe1n", "fa1p1 fb1p1 fc1p1 fd1p1 fe1p1", "fa1n-b fb1n-c fc1n-d fd1n-e fe1n-a",
		"fa1n fb1n-a fc1n-b fd1n-c fe1n-d ff1n-e fg1n-f fh1n-g fi1n-h fj1n-i fk1n-j fl1n-k", "fa9n fb8n fc7n fd6n fe5n ff4n fg3n fh2n fi1n fj1n fk1n fl1n",
	} {
		for _, status := range []int{1, 2, 3} {
			list := stepLog(text)
			for i := range list {
				list[i].Status = status
			}
			for i := range list {
				for j := range i + 1 {
					for _, other := range []int{1, 2, 3} {
						with := deepLog(list)
						with[i].Status, with[j].Status = other, other
						checkExec(t, with)
						checkRunWords(t, with)
					}
				}
			}
		}
	}
}

// One more entry, at each place, lets all run that ran before, and those that waited for it alone.
func TestExecOneMoreTable(t *testing.T) {
	for _, test := range []struct {
		name, log, one, order, waits string
	}{
		{"into a log that is empty", "", "fm5p1", "m", ""},
		{"a new one ahead", "fb1p1-a fc2p1-b fd3p1", "fa9p1", "dabc", ""},
		{"a new one in the middle", "fa1p1 fc2p1-b fd3p1-c", "fb9p1-a", "abcd", ""},
		{"a new one at the end", "fa1p1-d fb2p1-a fc3p1", "fd9p1", "cdab", ""},
		{"one that was proposed", "sa9p1 fb1p1-a fc2p1-b fd3p1", "fa9p1", "dabc", ""},
		{"one that was taken", "fa1p1 tb9p1-a fc2p1-b fd3p1", "fb9p1-a", "adbc", ""},
		{"one for which nothing waits", "fa3p1 fb5p1-a fd1p1-z", "fc4p1", "acb", "d"},
		{"one that waits itself", "fa3p1 fb5p1-c", "fc4p1-z", "a", "bc"},
		{"one that waits for what waits for it", "fa3p1-b", "fb4p1-a", "ab", ""},
		{"one of two for which one waits", "fa3p1-bc fd1p1-b", "fb4p1", "bd", "a"},
		{"the last one of two for which one waits", "fa3p1-bc fb4p1 fd1p1-b", "fc5p1", "bdca", ""},
		{"one for which several wait in a row", "fa1p1-b fb1p1-c fc1p1-d fd1p1-e", "fe1p1", "edcba", ""},
		{"one for which a group waits", "fa2p1-b fb1p1-ac fd3p1-a", "fc9p1", "cbad", ""},
		{"one that makes a group", "fa2p1-b fb3p1-c fd4p1-a", "fc1p1-a", "cabd", ""},
		{"one that joins two groups", "fa1p1-b fb2p1-a fc3p1-de fd4p1-c", "fe5p1-ab", "abecd", ""},
		{"one that does not come sooner than what ran", "fa9p1 fb8p1-a", "fc1p1-ab", "abc", ""},
		{"one that comes sooner than what ran, and does not change its order", "fa9p1 fb8p1-a", "fc1p1", "cab", ""},
	} {
		list, one := stepLog(test.log), stepOf(test.one)
		more, ok := impl.FixEntry(list, one)
		if got, waits := asLetters(impl.ExecOrder(more)), asLetters(impl.ExecWaits(more)); !ok || got != test.order || waits != test.waits {
			t.Errorf("%s: ExecOrder is %q, and ExecWaits %q", test.name, got, waits)
		}
		checkExec(t, list)
		checkExec(t, more)
		checkOneMoreWords(t, list, one.Id, more)
	}
}

// Promise 94, for logs of all kinds: without any one entry, and with it, new ones at each place, and what was proposed or taken.
func TestExecOneMore(t *testing.T) {
	random := rand.New(rand.NewSource(94))
	for _, list := range append(listsOfSteps(), someSteps(94, 10)...) {
		others := []impl.Entry{}
		for _, e := range list {
			for _, a := range append(slices.Clone(e.Deps), id(e.Id.Replica, e.Id.Number%50+1)) {
				deps := partsOf(idsOfLog(list[:min(len(list), 3)]))
				n := asEntry(a)
				n.Seq, n.Deps = 1+random.Intn(99), slices.DeleteFunc(slices.Clone(deps[random.Intn(len(deps))]), func(b impl.Id) bool { return a == b })
				others = append(others, n)
			}
			less := without(list, e.Id)
			checkMoreWords(t, less, []impl.Entry{e})
		}
		random.Shuffle(len(others), func(i, j int) { others[i], others[j] = others[j], others[i] })
		checkMoreWords(t, list, others[:min(len(others), 12)])
	}
}

// Entries are fixed one after the other, in any order: what runs once, runs from then on, in the same order.
func TestExecOneAfterTheOther(t *testing.T) {
	random := rand.New(rand.NewSource(95))
	for _, whole := range someSteps(95, 30) {
		var list []impl.Entry
		for _, i := range random.Perm(len(whole)) {
			one := deepEntry(whole[i])
			one.Status = impl.StatusFixed
			more, ok := impl.FixEntry(list, one)
			if !ok {
				t.Fatalf("FixEntry(%v, %v) fails", list, one)
			}
			checkOneMoreWords(t, list, one.Id, more)
			list = more
		}
		checkExec(t, list)
	}
}

// Exactly LogMax entries run, and of one more none.
func TestExecLimit(t *testing.T) {
	all := validIds()
	for from := 0; from+13 <= len(all); from += 11 {
		for many := range 14 {
			list := alike(all[from:from+many], add(1, 90), 3)
			for i := range list {
				list[i].Status = impl.StatusFixed
			}
			if many == 13 {
				wantNoExec(t, list)
				continue
			}
			state, results, ok := impl.ExecLog(list, []int{0, 100, 0, 0, 0, 999})
			if !ok || !slices.Equal(state, []int{0, (100 + 90*many) % 1000, 0, 0, 0, 999}) || len(results) != many || !slices.Equal(impl.ExecOrder(list), all[from:from+many]) {
				t.Fatalf("ExecLog(%v) is %v, %v, %v", list, state, results, ok)
			}
			checkExec(t, list)
			for i := range list {
				list[i].Deps = []impl.Id{all[from+many]}
			}
			if waits := impl.ExecWaits(list); !slices.Equal(waits, all[from:from+many]) || len(impl.ExecOrder(list)) != 0 {
				t.Fatalf("ExecWaits(%v) is %v", list, waits)
			}
			checkExec(t, list)
		}
	}
	for status := 1; status <= 3; status++ {
		wantNoExec(t, entriesOf(graph("a1 b1 c1 d1 e1 f1 g1 h1 i1 j1 k1 l1 m1"), status))
		wantNoExec(t, slices.Repeat(entriesOf(graph("a1 b1"), status), 8))
	}
	wantNoExec(t, make([]impl.Entry, 13))
	wantNoExec(t, slices.Repeat(alike(all, none(), 1), 1000))
	// Too many entries are invalid also if few of them are fixed.
	few := alike(all[:13], none(), 1)
	few[7].Status = impl.StatusFixed
	wantNoExec(t, few)
}

// One valid id after the other is that of an entry that runs, that waits, or that is waited for.
func TestExecEachId(t *testing.T) {
	all := validIds()
	for i, a := range all {
		b := all[(i+101)%250]
		one := impl.Entry{Id: a, Status: impl.StatusFixed, What: put(i%6, i%100), Seq: 1 + i%99}
		checkExec(t, []impl.Entry{one})
		if order := impl.ExecOrder([]impl.Entry{one}); !slices.Equal(order, []impl.Id{a}) {
			t.Fatalf("ExecOrder of %v is %v", one, order)
		}
		one.Deps = []impl.Id{b}
		if waits := impl.ExecWaits([]impl.Entry{one}); !slices.Equal(waits, []impl.Id{a}) {
			t.Fatalf("ExecWaits of %v is %v", one, waits)
		}
		for status := 1; status <= 3; status++ {
			two := []impl.Entry{one, {Id: b, Status: status, What: read(i % 6), Seq: 5}}
			if places[b] < places[a] {
				slices.Reverse(two)
			}
			checkExec(t, two)
			checkRunWords(t, two)
		}
	}
}

// An entry that is invalid in one part alone spoils all, at each place, whether it is fixed or not.
func TestExecInvalidEntry(t *testing.T) {
	for _, text := range []string{"fd5p1", "fd1r0 fe2n-d", "fa1p1 sd2p1-a te3a1-ad fx4r1-ad fy5p1-adex", "sb1n-c tc1n-b sd9a5", "fa1p1-b fb1p1-c fc1p1-d fd1p1-e fe1p1-f ff1p1-g fg1p1-h fh1p1-i fi1p1-j fj1p1-k fk1p1-l fl1p1-a"} {
		list := stepLog(text)
		checkExec(t, list)
		for i, e := range list {
			for name, bad := range spoiledEntries(e) {
				with := deepLog(list)
				with[i] = bad
				if wantLog(with) {
					t.Fatalf("%s: %v should be invalid", name, with)
				}
				wantNoExec(t, with)
			}
		}
	}
	for _, a := range invalidIds() {
		for status := 1; status <= 3; status++ {
			bad := impl.Entry{Id: a, Status: status, What: none(), Seq: 1}
			wantNoExec(t, []impl.Entry{bad})
			wantNoExec(t, append(stepLog("fa1p1 fd2p1-a"), bad))
			wantNoExec(t, append([]impl.Entry{bad}, stepLog("fa1p1 fd2p1-a")...))
			wantNoExec(t, []impl.Entry{{Id: letter('a'), Status: status, What: none(), Seq: 1, Deps: []impl.Id{a}}})
		}
	}
	for _, c := range invalidCommands() {
		for status := 1; status <= 3; status++ {
			wantNoExec(t, []impl.Entry{{Id: letter('a'), Status: status, What: c, Seq: 1}})
		}
	}
}

// Entries that are not in order, and ids twice, side by side and apart, whether they are fixed or not.
func TestExecOutOfOrder(t *testing.T) {
	for _, list := range listsOfSteps() {
		for i := range list {
			for j := range i {
				swapped := deepLog(list)
				swapped[i], swapped[j] = swapped[j], swapped[i]
				wantNoExec(t, swapped)
				twice := deepLog(list)
				twice[i].Id, twice[i].Deps = list[j].Id, nil
				wantNoExec(t, twice)
			}
			if len(list) < 12 {
				wantNoExec(t, slices.Insert(deepLog(list), i, list[i]))
				wantNoExec(t, append(deepLog(list), list[i]))
			}
		}
		if len(list) > 1 {
			slices.Reverse(list)
			wantNoExec(t, list)
		}
	}
	for _, text := range []string{"fb1n fa1n", "fa1n fa1n", "sa1n fa1n", "fa1n ta1n", "fa1n fb1n fa1n", "fa1n sc1n tb1n fd1n", "sb1n sa1n", "tb1n fa1n", "fa1n sb1n ta1n", "fa2n fa1n", "sa1n sa1n fb1n"} {
		wantNoExec(t, stepLog(text))
	}
}

// A state that is invalid fails for each log, also where nothing runs, and also if the log is invalid, too.
func TestExecLogInvalidState(t *testing.T) {
	logs := [][]impl.Entry{nil, {}, stepLog("fa1n"), stepLog("sa1n"), stepLog("fa1p1-z"), stepLog("fa3p1 fb2a5-a tc1r0 fd4r5"), stepLog("fb1n fa1n"), stepLog("fa0n"), alike(validIds()[:13], none(), 1), make([]impl.Entry, 1)}
	for _, list := range logs {
		for _, state := range invalidStates() {
			wantNoExecLog(t, list, state)
			checkExecLog(t, list, state)
		}
		for _, state := range validStates() {
			checkExecLog(t, list, state)
		}
	}
}

// runTest is a table row: a log, and what becomes of the state 10 20 30 40 50 990, and what runs with which results.
type runTest struct {
	name, log string
	state     []int
	order     string
	values    []int
}

func runTests() []runTest {
	return []runTest{
		{"nothing", "", []int{10, 20, 30, 40, 50, 990}, "", nil},
		{"nothing is fixed", "sa1p1 tb2p2", []int{10, 20, 30, 40, 50, 990}, "", nil},
		{"all waits", "fa1p1-z fb2p2-a", []int{10, 20, 30, 40, 50, 990}, "", nil},
		{"it reads", "fa1r2", []int{10, 20, 30, 40, 50, 990}, "a", []int{30}},
		{"it reads the last key", "fb1r5", []int{10, 20, 30, 40, 50, 990}, "b", []int{990}},
		{"it puts", "fb1p0", []int{4, 20, 30, 40, 50, 990}, "b", []int{0}},
		{"it adds", "fb1a3", []int{10, 20, 30, 45, 50, 990}, "b", []int{0}},
		{"it does nothing", "fb1n", []int{10, 20, 30, 40, 50, 990}, "b", []int{0}},
		{"all of it does nothing", "fa1n fb2n-a fc3n", []int{10, 20, 30, 40, 50, 990}, "abc", []int{0, 0, 0}},
		{"a sum goes beyond the end", "fc1a5 fd2a5", []int{10, 20, 30, 40, 50, 9}, "cd", []int{0, 0}},
		{"a sum that is just the end", "fc1a5 fz2r5", []int{10, 20, 30, 40, 50, 998}, "cz", []int{0, 998}},
		{"it reads, and then puts", "fa1r1 fb2p1", []int{10, 4, 30, 40, 50, 990}, "ab", []int{20, 0}},
		{"it puts, and then reads", "fa2r1 fb1p1", []int{10, 4, 30, 40, 50, 990}, "ba", []int{0, 4}},
		{"it reads behind what it depends on, which has a greater rank", "fa1r1-b fb2p1", []int{10, 4, 30, 40, 50, 990}, "ba", []int{0, 4}},
		{"it puts, and then adds", "fb1p1 fc2a1", []int{10, 12, 30, 40, 50, 990}, "bc", []int{0, 0}},
		{"it adds, and then puts", "fb2p1 fc1a1", []int{10, 4, 30, 40, 50, 990}, "cb", []int{0, 0}},
		{"the last one that puts", "fb1p1 fc2p1 fd3p1", []int{10, 10, 30, 40, 50, 990}, "bcd", []int{0, 0, 0}},
		{"the last one that puts, the other way round", "fb3p1 fc2p1 fd1p1", []int{10, 4, 30, 40, 50, 990}, "dcb", []int{0, 0, 0}},
		{"a group that puts, by rank", "fb2p1-c fc1p1-b", []int{10, 4, 30, 40, 50, 990}, "cb", []int{0, 0}},
		{"a group that puts, by id", "fb1p1-c fc1p1-b", []int{10, 7, 30, 40, 50, 990}, "bc", []int{0, 0}},
		{"each key by itself", "fa1a0 fb1a1 fc1a2 fd1a3 fe1a4 ff1a5", []int{12, 25, 38, 51, 64, 7}, "abcdef", []int{0, 0, 0, 0, 0, 0}},
		{"what is not fixed does nothing", "fa1r1 sb2p1 tc3a1 fd4r1", []int{10, 20, 30, 40, 50, 990}, "ad", []int{20, 20}},
		{"what waits does nothing", "fa1r1 fb2p1-z fc3a1-b fd4r1", []int{10, 20, 30, 40, 50, 990}, "ad", []int{20, 20}},
		{"reading between", "fa1r1 fb2a1 fc3r1 fd4a1 fe5r1 ff6p1 fg7r1", []int{10, 16, 30, 40, 50, 990}, "abcdefg", []int{20, 0, 25, 0, 36, 0, 16}},
		{"12 of them", "fa1r5 fb2a5 fc3r5 fd4a5 fe5r5 ff6p5 fg7r5 fh8a5 fi9r5 fj10a5 fk11r5 fl12n", []int{10, 20, 30, 40, 50, 68}, "abcdefghijkl", []int{990, 0, 995, 0, 6, 0, 16, 0, 39, 0, 68, 0}},
	}
}

func TestExecLogTable(t *testing.T) {
	for _, test := range runTests() {
		list := stepLog(test.log)
		var want []impl.Result
		for i, a := range lettersOf(test.order) {
			want = append(want, impl.Result{Id: a, Value: test.values[i]})
		}
		state, results, ok := impl.ExecLog(list, []int{10, 20, 30, 40, 50, 990})
		if !ok || !slices.Equal(state, test.state) || !slices.Equal(results, want) {
			t.Errorf("%s: ExecLog is %v, %v, %v", test.name, state, results, ok)
		}
		checkExec(t, list)
		checkExecWords(t, list)
	}
}

// Each command by itself, on states with values at the limits.
func TestExecLogEachCommand(t *testing.T) {
	for i, c := range validCommands() {
		list := []impl.Entry{{Id: validIds()[i%250], Status: impl.StatusFixed, What: c, Seq: 1 + i%99}}
		for _, state := range validStates() {
			checkExecLog(t, list, state)
		}
	}
}

// Two commands that clash, or not, in both orders, by rank, by id, and by what depends on what.
func TestExecLogTwoCommands(t *testing.T) {
	few := []impl.Command{none(), read(0), read(1), put(0, 5), put(1, 5), put(1, 99), add(0, 9), add(1, 9), add(1, 99)}
	for _, a := range few {
		for _, b := range few {
			for _, text := range []string{"a1 b2", "a2 b1", "a1 b1", "a1b b1", "a1 b1a", "a1b b2", "a2 b1a", "a1b b1a", "a2b b1a", "a1 b2x", "a1x b2"} {
				list := entriesOf(graph(text), impl.StatusFixed)
				list[0].What, list[1].What = a, b
				for _, state := range fewStates() {
					checkExecLog(t, list, state)
					checkStateWords(t, list, state)
				}
			}
		}
	}
}

// What does not clash and does not wait leads to the same state in any order, and what clashes does not.
func TestExecLogOrders(t *testing.T) {
	state := []int{101, 202, 303, 404, 505, 606}
	seen := map[bool]int{}
	for _, a := range askedCommands() {
		for _, b := range askedCommands() {
			if !valids[a] || !valids[b] {
				continue
			}
			first, second := entriesOf(graph("a1 b2"), impl.StatusFixed), entriesOf(graph("a2 b1"), impl.StatusFixed)
			first[0].What, first[1].What, second[0].What, second[1].What = a, b, a, b
			one, oneResults, _ := impl.ExecLog(first, state)
			two, twoResults, _ := impl.ExecLog(second, state)
			same := slices.Equal(one, two) && oneResults[0] == twoResults[1] && oneResults[1] == twoResults[0]
			if same != impl.StateSwap(state, a, b) {
				t.Fatalf("ExecLog of %v and %v is %v, %v, and the other way round %v, %v", a, b, one, oneResults, two, twoResults)
			}
			seen[same]++
		}
	}
	if seen[true] < 50 || seen[false] < 20 {
		t.Errorf("the orders are only %v", seen)
	}
}

// Promise 96, by its words: what is proposed or taken changes nothing, whatever it is.
func TestExecLogWithoutOthers(t *testing.T) {
	random := rand.New(rand.NewSource(96))
	for _, list := range append(listsOfSteps(), someSteps(96, 20)...) {
		fixed := fixedOf(list)
		state := validStates()[random.Intn(len(validStates()))]
		want, wantResults, ok := impl.ExecLog(fixed, state)
		if !ok {
			t.Fatalf("ExecLog(%v, %v) fails", fixed, state)
		}
		for range 5 {
			other := deepLog(list)
			for i := range other {
				if other[i].Status != impl.StatusFixed {
					other[i] = someEntry(random, other[i].Id, 99)
					other[i].Status = 1 + random.Intn(2)
				}
			}
			after, results, ok := impl.ExecLog(other, state)
			if !ok || !slices.Equal(after, want) || !slices.Equal(results, wantResults) {
				t.Fatalf("ExecLog(%v, %v) is %v, %v, %v, and without what is not fixed %v, %v", other, state, after, results, ok, want, wantResults)
			}
			if !slices.Equal(impl.ExecOrder(other), impl.ExecOrder(fixed)) || !slices.Equal(impl.ExecWaits(other), impl.ExecWaits(fixed)) {
				t.Fatalf("of %v, ExecOrder is %v, and ExecWaits %v", other, impl.ExecOrder(other), impl.ExecWaits(other))
			}
		}
	}
}

// Ballots do not count for what runs, or how.
func TestExecBallots(t *testing.T) {
	for _, list := range listsOfSteps() {
		want, wantResults, _ := impl.ExecLog(list, fewStates()[1])
		for _, ballots := range [][]int{{0}, {999}, {0, 999}, {999, 998, 997}, {1, 2, 3, 4, 5, 6, 7, 8, 9, 10, 11, 12}} {
			other := deepLog(list)
			for i := range other {
				other[i].Ballot = ballots[i%len(ballots)]
			}
			after, results, ok := impl.ExecLog(other, fewStates()[1])
			if !ok || !slices.Equal(after, want) || !slices.Equal(results, wantResults) || !slices.Equal(impl.ExecWaits(other), impl.ExecWaits(list)) {
				t.Fatalf("ExecLog(%v) is %v, %v, %v", other, after, results, ok)
			}
		}
	}
}

// What replicas agree upon and fix runs as soon as all that it depends on is fixed, too.
func TestExecOfProposals(t *testing.T) {
	random := rand.New(rand.NewSource(97))
	waited := 0
	for range 150 {
		logs, fixed := make([][]impl.Entry, 3), []impl.Entry{}
		for range 9 {
			leader, other := random.Intn(3), 0
			after, own, ok := impl.Propose(logs[leader], leader, manyCommands(random, 1)[0])
			if other = (leader + 1 + random.Intn(2)) % 3; !ok {
				continue
			}
			told, answer, fine := impl.PreAccept(logs[other], own)
			joined, same := impl.AnswersJoin(own, []impl.Entry{answer})
			if !fine || !same {
				continue
			}
			joined.Status, logs[leader], logs[other] = impl.StatusFixed, after, told
			fixed = append(fixed, joined)
		}
		var list []impl.Entry
		for _, i := range random.Perm(len(fixed)) {
			more, ok := impl.FixEntry(list, fixed[i])
			if !ok {
				t.Fatalf("FixEntry(%v, %v) fails", list, fixed[i])
			}
			checkExec(t, more)
			checkOneMoreWords(t, list, fixed[i].Id, more)
			list = more
			waited += len(impl.ExecWaits(list))
		}
		// All that was proposed is fixed, so that nothing is missing.
		if len(impl.ExecOrder(list)) != len(list) || len(impl.ExecWaits(list)) != 0 {
			t.Fatalf("ExecOrder(%v) is %v, and ExecWaits %v", list, impl.ExecOrder(list), impl.ExecWaits(list))
		}
		checkExecWords(t, list)
	}
	if waited < 100 {
		t.Errorf("only %d waited", waited)
	}
}

// spoilResults changes all results of a slice, and what is behind its end.
func spoilResults(list []impl.Result) {
	for i := range list {
		list[i] = impl.Result{Id: id(-77, -77), Value: -77}
	}
	for i, far := len(list), append(list, impl.Result{}, impl.Result{}); i < len(far); i++ {
		far[i].Value = -78
	}
	for i, all := len(list), list[:cap(list)]; i < len(all); i++ {
		all[i].Value = -79
	}
}

// ran is all that the functions return for a log and a state.
type ran struct {
	order, waits []impl.Id
	state        []int
	results      []impl.Result
	ok           bool
}

func ranOf(list []impl.Entry, state []int) ran {
	after, results, ok := impl.ExecLog(list, state)
	return ran{impl.ExecOrder(list), impl.ExecWaits(list), after, results, ok}
}

func (x ran) copied() ran {
	return ran{slices.Clone(x.order), slices.Clone(x.waits), slices.Clone(x.state), slices.Clone(x.results), x.ok}
}

// alike tells of each result whether two have the same.
func (x ran) alike(y ran) []bool {
	return []bool{slices.Equal(x.order, y.order), slices.Equal(x.waits, y.waits), slices.Equal(x.state, y.state), slices.Equal(x.results, y.results)}
}

func (x ran) same(y ran) bool {
	return x.ok == y.ok && !slices.Contains(x.alike(y), false)
}

// parts returns what changes one of the results each.
func (x ran) parts() []func() {
	return []func(){func() { spoilIds(x.order) }, func() { spoilIds(x.waits) }, func() { spoil(x.state) }, func() { spoilResults(x.results) }}
}

// rooms returns the slices that the functions returned.
func (x ran) rooms() []any {
	return []any{x.order, x.waits, x.state, x.results}
}

// checkExecMemory checks that no function changes its arguments, or gives out their memory or that of another result.
func checkExecMemory(t *testing.T, list []impl.Entry, state []int) {
	t.Helper()
	given, whole, rows := roomyLog(list)
	cells, wholeState := held(state)
	before, rowsBefore, roomsBefore, stateBefore := deepLog(whole), deepRows(rows), roomsOf(reflect.ValueOf(whole)), slices.Clone(wholeState)
	unchanged := func() bool {
		// What entries depend on must not even have been moved, or lost capacity.
		return sameLog(whole, before) && sameRows(rows, rowsBefore) && slices.Equal(roomsOf(reflect.ValueOf(whole)), roomsBefore) && slices.Equal(wholeState, stateBefore)
	}
	first, second := ranOf(given, cells), ranOf(given, cells)
	want := second.copied()
	if !unchanged() || !first.same(second) || sharing(slices.Concat([]any{whole, wholeState}, first.rooms(), second.rooms())...) {
		t.Fatalf("a function of %v and %v changes or shares what it is given", list, state)
	}
	for i, part := range first.parts() {
		part()
		for j, same := range first.alike(want) {
			// Those behind it must be as they were.
			if j > i && !same || !unchanged() || !second.same(want) {
				t.Fatalf("behind a function of %v and %v, its result %d changes an argument or another result", list, state, i)
			}
		}
	}
	for _, row := range rows {
		spoilIds(row)
	}
	spoilLog(given)
	spoil(cells)
	if !second.same(want) {
		t.Fatalf("behind a function of %v and %v, its argument changes a result", list, state)
	}
}

// Also where nothing runs, where a state comes out as it was, and where all fails.
func TestExecMemory(t *testing.T) {
	lists := append(listsOfSteps(), stepLog("fb1n fa1n"), stepLog("fa1n-a fb1n"), stepLog("fa0n-b fb1n"), stepLog("fa1n-cb fb1n fc1n"), alike(validIds()[:13], none(), 1))
	states := append(fewStates(), nil, []int{}, []int{1, 2, 3, 4, 5}, []int{1, 2, 3, 4, 5, 6, 7}, []int{1, 2, 3, 4, 5, 1000})
	for _, list := range lists {
		for _, state := range states {
			checkExecMemory(t, list, state)
		}
	}
	for _, test := range runTests() {
		checkExecMemory(t, stepLog(test.log), []int{10, 20, 30, 40, 50, 990})
	}
}

// A state that has just its own memory does not come out as it is, also where nothing runs.
func TestExecStateMemory(t *testing.T) {
	for _, text := range []string{"", "sa1p1", "ta1p1 fb1p1-a", "fa1n", "fa1r1 fb2r1", "fa1p1"} {
		state := make([]int, 6)
		list := stepLog(text)
		after, results, ok := impl.ExecLog(list, state)
		again, more, _ := impl.ExecLog(list, after)
		if !ok || sharing(list, state, after, again, results, more) {
			t.Errorf("ExecLog of %s shares what it is given", text)
		}
		spoil(after)
		if !slices.Equal(state, make([]int, 6)) || !wantState(again) {
			t.Errorf("behind ExecLog of %s, its result changes %v or %v", text, state, again)
		}
	}
}

// Entries may depend on the same memory, or on parts of it that overlap.
func TestExecOneMemory(t *testing.T) {
	for _, seqs := range [][]int{{1, 2, 3, 4}, {4, 3, 2, 1}, {5, 5, 5, 5}} {
		for _, missing := range []string{"abcd", "efgh", "ehxy"} {
			deps, whole := roomy(lettersOf(missing))
			list := []impl.Entry{
				{Id: letter('i'), Status: 3, What: put(1, 1), Seq: seqs[0], Deps: deps},
				{Id: letter('j'), Status: 3, What: put(1, 2), Seq: seqs[1], Deps: deps[1:3]},
				{Id: letter('k'), Status: 3, What: put(1, 3), Seq: seqs[2], Deps: deps[:0]},
				{Id: letter('l'), Status: 3, What: read(1), Seq: seqs[3], Deps: deps[2:]},
			}
			list = append(stepLog("fe1p1 ff1r1-e fg2a1-f fh1n"), list...)
			before, idsBefore := deepLog(list), slices.Clone(whole)
			x, y := ranOf(list, fewStates()[1]), ranOf(list, fewStates()[1])
			want := ranOf(before, fewStates()[1])
			checkExec(t, before)
			if !x.same(want) || sharing(slices.Concat([]any{whole}, x.rooms(), y.rooms())...) {
				t.Fatalf("of %v, all is %v, or shares what is given", before, x)
			}
			for _, part := range x.parts() {
				part()
			}
			if !sameLog(list, before) || !slices.Equal(whole, idsBefore) || !y.same(want) {
				t.Fatalf("behind a function of %v, its result changes an argument or another result", before)
			}
		}
	}
}

// The same call gives the same result, however often it is made.
func TestExecAgain(t *testing.T) {
	for _, list := range listsOfSteps() {
		want := ranOf(list, fewStates()[2])
		for range 10 {
			if got := ranOf(deepLog(list), fewStates()[2]); !got.same(want) {
				t.Fatalf("a function of %v returns different results", list)
			}
		}
	}
}

func FuzzExecution(f *testing.F) {
	f.Add([]byte{}, false, 0, 0)
	f.Add([]byte{42, 6, 6, 9, 2, 43, 6, 7, 200, 1, 44, 99, 5, 3, 0}, true, 999, 5)
	f.Add([]byte{42, 1, 0, 4, 0, 42, 1, 0, 4, 0}, false, 1, 1)
	f.Add([]byte{42, 6, 6, 9, 2, 43, 6, 7, 9, 1, 44, 12, 11, 3, 1, 31, 6, 1, 9, 0, 18, 6, 1, 9, 0}, true, 1000, 3)
	f.Add([]byte{45, 0, 6, 4, 15, 44, 6, 6, 4, 3, 43, 12, 11, 4, 1, 42, 18, 5, 4, 4}, true, -1, 0)
	f.Fuzz(func(t *testing.T, bytes []byte, sort bool, value, key int) {
		// Far more entries than LogMax would only take long.
		list := entriesOfBytes(bytes[:min(80, len(bytes))])
		if sort {
			slices.SortFunc(list, func(x, y impl.Entry) int { return places[x.Id] - places[y.Id] })
			list = slices.CompactFunc(list, func(x, y impl.Entry) bool { return x.Id == y.Id })
		}
		state := []int{101, 202, 303, 404, 505, 606}
		if key >= 0 && key < len(state) {
			state[key] = value
		}
		for range 2 {
			checkExec(t, list)
			checkExecLog(t, list, state)
			checkExecMemory(t, list, state)
			if wantLog(list) {
				checkExecWords(t, list)
			}
			// Once more, where all that has another status is fixed.
			for i := range list {
				list[i].Status = impl.StatusFixed
			}
		}
	})
}
