package tests

import (
	"math"
	"math/rand"
	"slices"
	"testing"

	"loop.example/leaderlesslog/impl"
)

func read(key int) impl.Command { return impl.Command{Kind: impl.KindRead, Key: key} }

func put(key, value int) impl.Command {
	return impl.Command{Kind: impl.KindPut, Key: key, Value: value}
}

func add(key, value int) impl.Command {
	return impl.Command{Kind: impl.KindAdd, Key: key, Value: value}
}

func none() impl.Command { return impl.Command{Kind: impl.KindNone} }

// validStates lists states with values at the limits at each key, and some between them.
func validStates() [][]int {
	list := [][]int{
		{0, 0, 0, 0, 0, 0},
		{999, 999, 999, 999, 999, 999},
		{0, 1, 2, 3, 4, 5},
		{7, 99, 100, 900, 901, 998},
		{950, 0, 999, 1, 500, 999},
	}
	for key := range 6 {
		for _, value := range []int{1, 50, 99, 100, 899, 900, 901, 998, 999} {
			state := []int{0, 0, 0, 0, 0, 0}
			state[key] = value
			list = append(list, state)
		}
	}
	return list
}

// invalidStates lists what has too few or too many values, or one or two values that are not in range.
func invalidStates() [][]int {
	list := [][]int{
		nil, {}, {0}, {0, 0, 0, 0, 0}, {1, 2, 3, 4, 5}, {0, 0, 0, 0, 0, 0, 0}, {1, 2, 3, 4, 5, 6, 7},
		make([]int, 12), make([]int, 5, 6), make([]int, 0, 6), make([]int, 4000),
		{-1, 0, 0, 0, 0, 1000}, {-1, -1, -1, -1, -1, -1}, {1000, 1000, 1000, 1000, 1000, 1000}, {-1}, {0, 0, 0, 0, 0, 0, -1},
	}
	for key := range 6 {
		for _, value := range []int{-1, -2, -999, -1000, 1000, 1001, 1999, 2000, 1 << 32, 1<<32 + 5, math.MinInt, math.MaxInt} {
			state := []int{1, 2, 3, 4, 5, 6}
			state[key] = value
			list = append(list, state)
		}
	}
	return list
}

// invalidCommands lists commands of which one or more numbers are not in range.
func invalidCommands() []impl.Command {
	valid := validSet()
	var list []impl.Command
	for _, c := range edgeCommands() {
		if !valid[c] {
			list = append(list, c)
		}
	}
	return list
}

// wantStep runs a valid command on a valid state, as chapter 2 tells it.
func wantStep(state []int, c impl.Command) ([]int, int) {
	after := append([]int{}, state...)
	switch c.Kind {
	case impl.KindRead:
		return after, state[c.Key]
	case impl.KindPut:
		after[c.Key] = c.Value
	case impl.KindAdd:
		after[c.Key] += c.Value
		if after[c.Key] >= 1000 {
			after[c.Key] -= 1000
		}
	}
	return after, 0
}

// wantRun runs valid commands on a valid state, one after the other.
func wantRun(state []int, list []impl.Command) ([]int, []int) {
	after := append([]int{}, state...)
	var results []int
	for _, c := range list {
		next, result := wantStep(after, c)
		after, results = next, append(results, result)
	}
	return after, results
}

// wantSwap runs two valid commands in both orders.
func wantSwap(state []int, a, b impl.Command) bool {
	one, oneResults := wantRun(state, []impl.Command{a, b})
	two, twoResults := wantRun(state, []impl.Command{b, a})
	return slices.Equal(one, two) && oneResults[0] == twoResults[1] && oneResults[1] == twoResults[0]
}

// manyCommands returns so many valid commands, most of them at few keys, so that they meet.
func manyCommands(random *rand.Rand, many int) []impl.Command {
	list := []impl.Command{}
	for range many {
		key := random.Intn(6)
		if random.Intn(2) == 0 {
			key = 1 + random.Intn(2)
		}
		switch random.Intn(7) {
		case 0, 1:
			list = append(list, read(key))
		case 2, 3:
			list = append(list, put(key, random.Intn(100)))
		case 4, 5:
			list = append(list, add(key, random.Intn(100)))
		default:
			list = append(list, none())
		}
	}
	return list
}

// wantNoStep checks that StateStep fails, with zero values.
func wantNoStep(t *testing.T, state []int, c impl.Command) {
	t.Helper()
	if after, result, ok := impl.StateStep(state, c); ok || len(after) != 0 || result != 0 {
		t.Errorf("StateStep(%v, %v) is %v, %d, %v", state, c, after, result, ok)
	}
}

// wantNoRun checks that StateRun fails, with zero values.
func wantNoRun(t *testing.T, state []int, list []impl.Command) {
	t.Helper()
	if after, results, ok := impl.StateRun(state, list); ok || len(after) != 0 || len(results) != 0 {
		t.Errorf("StateRun(%v, %v) is %v, %v, %v", state, list, after, results, ok)
	}
}

// checkRun holds StateRun of valid arguments against the document.
func checkRun(t *testing.T, state []int, list []impl.Command) {
	t.Helper()
	want, wantResults := wantRun(state, list)
	after, results, ok := impl.StateRun(state, list)
	if !ok || !slices.Equal(after, want) || !slices.Equal(results, wantResults) {
		t.Errorf("StateRun(%v, %v) is %v, %v, %v, not %v, %v", state, list, after, results, ok, want, wantResults)
	}
}

func TestStateConstant(t *testing.T) {
	if impl.StateWrap != 1000 {
		t.Errorf("StateWrap is %d", impl.StateWrap)
	}
}

func TestStateValid(t *testing.T) {
	for _, state := range validStates() {
		if !impl.StateValid(state) {
			t.Errorf("%v is not valid", state)
		}
	}
	for value := range 1000 {
		if state := []int{value, 999 - value, 0, 999, value, 1}; !impl.StateValid(state) {
			t.Errorf("%v is not valid", state)
		}
	}
	if long := make([]int, 6, 50); !impl.StateValid(long) {
		t.Errorf("a state with room for more is not valid")
	}
	for _, state := range invalidStates() {
		if impl.StateValid(state) {
			t.Errorf("%v is valid", state)
		}
	}
}

// Promises 8 and 9, for each valid command.
func TestStateStep(t *testing.T) {
	for _, state := range validStates() {
		for _, c := range validCommands() {
			want, wantResult := wantStep(state, c)
			after, result, ok := impl.StateStep(state, c)
			if !ok || !slices.Equal(after, want) || result != wantResult {
				t.Fatalf("StateStep(%v, %v) is %v, %d, %v, not %v, %d", state, c, after, result, ok, want, wantResult)
			}
		}
	}
}

// Promise 8, by its words.
func TestStateStepOtherKeys(t *testing.T) {
	for _, state := range validStates() {
		for _, c := range validCommands() {
			after, _, ok := impl.StateStep(state, c)
			if !ok || !impl.StateValid(after) {
				t.Fatalf("StateStep(%v, %v) is %v, %v", state, c, after, ok)
			}
			for key := range state {
				if after[key] != state[key] && (key != c.Key || c.Kind == impl.KindNone) {
					t.Errorf("StateStep(%v, %v) is %v, which changes the key %d", state, c, after, key)
				}
			}
		}
	}
}

// Promise 9: each sum that there is, also the ones that begin again.
func TestStateStepSums(t *testing.T) {
	for value := range 1000 {
		for more := range 100 {
			for _, key := range []int{0, 3, 5} {
				state := []int{9, 9, 9, 9, 9, 9}
				state[key] = value
				want := (value + more) % 1000
				after, result, ok := impl.StateStep(state, add(key, more))
				if !ok || result != 0 || len(after) != 6 || after[key] != want {
					t.Fatalf("StateStep(%v, %v) is %v, %d, %v", state, add(key, more), after, result, ok)
				}
			}
		}
	}
}

func TestStateStepEdges(t *testing.T) {
	for _, test := range []struct {
		state  []int
		c      impl.Command
		after  []int
		result int
	}{
		{[]int{0, 998, 0, 0, 0, 0}, add(1, 1), []int{0, 999, 0, 0, 0, 0}, 0},
		{[]int{0, 998, 0, 0, 0, 0}, add(1, 2), []int{0, 0, 0, 0, 0, 0}, 0},
		{[]int{0, 998, 0, 0, 0, 0}, add(1, 3), []int{0, 1, 0, 0, 0, 0}, 0},
		{[]int{999, 5, 5, 5, 5, 999}, add(0, 99), []int{98, 5, 5, 5, 5, 999}, 0},
		{[]int{999, 5, 5, 5, 5, 999}, add(5, 99), []int{999, 5, 5, 5, 5, 98}, 0},
		{[]int{900, 0, 0, 0, 0, 901}, add(0, 99), []int{999, 0, 0, 0, 0, 901}, 0},
		{[]int{900, 0, 0, 0, 0, 901}, add(5, 99), []int{900, 0, 0, 0, 0, 0}, 0},
		{[]int{0, 0, 0, 0, 0, 0}, add(0, 0), []int{0, 0, 0, 0, 0, 0}, 0},
		{[]int{999, 0, 0, 0, 0, 0}, add(0, 0), []int{999, 0, 0, 0, 0, 0}, 0},
		{[]int{1, 2, 3, 4, 5, 6}, put(0, 0), []int{0, 2, 3, 4, 5, 6}, 0},
		{[]int{1, 2, 3, 4, 5, 6}, put(0, 1), []int{1, 2, 3, 4, 5, 6}, 0},
		{[]int{1, 2, 3, 4, 5, 6}, put(5, 99), []int{1, 2, 3, 4, 5, 99}, 0},
		{[]int{1, 2, 3, 4, 5, 999}, put(5, 7), []int{1, 2, 3, 4, 5, 7}, 0},
		{[]int{1, 2, 3, 4, 5, 6}, read(0), []int{1, 2, 3, 4, 5, 6}, 1},
		{[]int{1, 2, 3, 4, 5, 999}, read(5), []int{1, 2, 3, 4, 5, 999}, 999},
		{[]int{1, 0, 3, 4, 5, 6}, read(1), []int{1, 0, 3, 4, 5, 6}, 0},
		{[]int{1, 2, 3, 4, 5, 6}, none(), []int{1, 2, 3, 4, 5, 6}, 0},
	} {
		after, result, ok := impl.StateStep(test.state, test.c)
		if !ok || !slices.Equal(after, test.after) || result != test.result {
			t.Errorf("StateStep(%v, %v) is %v, %d, %v", test.state, test.c, after, result, ok)
		}
	}
}

// Promise 10, and the same behind what adds.
func TestStateStepThenRead(t *testing.T) {
	for _, state := range validStates() {
		for _, c := range validCommands() {
			want := (state[c.Key] + c.Value) % 1000
			if c.Kind == impl.KindPut {
				want = c.Value
			}
			after, _, ok := impl.StateStep(state, c)
			if !ok {
				t.Fatalf("StateStep(%v, %v) fails", state, c)
			}
			again, result, ok := impl.StateStep(after, read(c.Key))
			if !ok || result != want || !slices.Equal(again, after) {
				t.Errorf("behind StateStep(%v, %v), reading is %v, %d, %v, not %d", state, c, again, result, ok, want)
			}
		}
	}
}

func TestStateStepInvalid(t *testing.T) {
	some := []impl.Command{read(0), read(5), put(0, 0), put(5, 99), add(2, 1), add(1, 0), none()}
	for _, state := range invalidStates() {
		for _, c := range some {
			wantNoStep(t, state, c)
		}
	}
	for i, c := range invalidCommands() {
		for _, state := range validStates()[:5] {
			wantNoStep(t, state, c)
		}
		both := invalidStates()
		wantNoStep(t, both[i%len(both)], c)
		wantNoStep(t, nil, c)
	}
}

// Promises 11 and 12, for runs of each length that there is.
func TestStateRun(t *testing.T) {
	random := rand.New(rand.NewSource(2))
	for _, state := range validStates() {
		for many := range 21 {
			checkRun(t, state, manyCommands(random, many))
		}
		for _, c := range validCommands() {
			checkRun(t, state, []impl.Command{c})
		}
	}
}

// Promise 11, by its words: at each place where the run is cut.
func TestStateRunInTwo(t *testing.T) {
	random := rand.New(rand.NewSource(11))
	for _, state := range validStates() {
		list := manyCommands(random, random.Intn(21))
		after, results, ok := impl.StateRun(state, list)
		if !ok {
			t.Fatalf("StateRun(%v, %v) fails", state, list)
		}
		for cut := 0; cut <= len(list); cut++ {
			half, first, okFirst := impl.StateRun(state, list[:cut])
			whole, others, okOthers := impl.StateRun(half, list[cut:])
			if !okFirst || !okOthers || !slices.Equal(whole, after) || !slices.Equal(append(first, others...), results) {
				t.Errorf("StateRun(%v, %v) is %v, %v, but cut at %d it is %v, %v, %v", state, list, after, results, cut, whole, first, others)
			}
		}
	}
}

// Promise 12, by its words.
func TestStateRunByStateStep(t *testing.T) {
	random := rand.New(rand.NewSource(12))
	for _, state := range validStates() {
		list := manyCommands(random, 1+random.Intn(20))
		after, results, ok := impl.StateRun(state, list)
		if !ok || len(results) != len(list) {
			t.Fatalf("StateRun(%v, %v) is %v, %v, %v", state, list, after, results, ok)
		}
		now := state
		for i, c := range list {
			next, result, ok := impl.StateStep(now, c)
			if !ok || result != results[i] {
				t.Errorf("the result %d of StateRun(%v, %v) is %d, and of StateStep %d, %v", i, state, list, results[i], result, ok)
			}
			now = next
		}
		if !slices.Equal(now, after) {
			t.Errorf("StateRun(%v, %v) is %v, and StateStep leads to %v", state, list, after, now)
		}
	}
}

func TestStateRunLimits(t *testing.T) {
	state := []int{990, 0, 0, 0, 0, 3}
	for _, list := range [][]impl.Command{nil, {}} {
		after, results, ok := impl.StateRun(state, list)
		if !ok || !slices.Equal(after, state) || len(results) != 0 {
			t.Errorf("StateRun of no command is %v, %v, %v", after, results, ok)
		}
	}
	full := []impl.Command{}
	for range 10 {
		full = append(full, add(0, 99), read(0))
	}
	after, results, ok := impl.StateRun(state, full)
	want := []int{0, 89, 0, 188, 0, 287, 0, 386, 0, 485, 0, 584, 0, 683, 0, 782, 0, 881, 0, 980}
	if !ok || !slices.Equal(after, []int{980, 0, 0, 0, 0, 3}) || !slices.Equal(results, want) {
		t.Errorf("StateRun of 20 commands is %v, %v, %v", after, results, ok)
	}
	for _, c := range []impl.Command{none(), read(0), put(1, 1), add(1, 0), {Kind: 4}, {Kind: -1}} {
		wantNoRun(t, state, append(full[:20:20], c))
		wantNoRun(t, state, append([]impl.Command{c}, full...))
	}
	wantNoRun(t, state, slices.Repeat([]impl.Command{none()}, 21))
	wantNoRun(t, state, slices.Repeat([]impl.Command{read(1)}, 4000))
	wantNoRun(t, nil, slices.Repeat([]impl.Command{none()}, 21))
}

func TestStateRunInvalid(t *testing.T) {
	random := rand.New(rand.NewSource(21))
	for _, state := range invalidStates() {
		wantNoRun(t, state, nil)
		wantNoRun(t, state, []impl.Command{none()})
		wantNoRun(t, state, manyCommands(random, 20))
		wantNoRun(t, state, []impl.Command{{Kind: 4}})
	}
	bad := invalidCommands()
	for _, c := range bad {
		wantNoRun(t, validStates()[2], []impl.Command{c})
	}
	for place := range 20 {
		for range 40 {
			list := manyCommands(random, 20)
			list[place] = bad[random.Intn(len(bad))]
			wantNoRun(t, validStates()[3], list)
			wantNoRun(t, validStates()[3], list[:place+1])
			wantNoRun(t, nil, list)
			list[random.Intn(20)] = bad[random.Intn(len(bad))]
			wantNoRun(t, validStates()[3], list)
		}
	}
}

// someCommands lists commands of each kind at two keys, with values that a state has or not.
func someCommands(state []int) []impl.Command {
	list := []impl.Command{none()}
	for _, key := range []int{0, 1, 5} {
		list = append(list, read(key))
		for _, value := range []int{0, 1, 2, 50, 98, 99} {
			list = append(list, put(key, value), add(key, value))
		}
		if state[key] <= 99 {
			list = append(list, put(key, state[key]))
		}
	}
	return list
}

// Promises 13, 14 and 15, for each two of some commands.
func TestStateSwap(t *testing.T) {
	for _, state := range validStates() {
		list := someCommands(state)
		for _, a := range list {
			for _, b := range list {
				got := impl.StateSwap(state, a, b)
				if got != wantSwap(state, a, b) {
					t.Errorf("StateSwap(%v, %v, %v) is %v", state, a, b, got)
				}
				if !got && !impl.CommandsClash(a, b) {
					t.Errorf("StateSwap(%v, %v, %v) does not hold, and they do not clash", state, a, b)
				}
				if got != impl.StateSwap(state, b, a) {
					t.Errorf("StateSwap(%v, %v, %v) is %v, but not in the other direction", state, a, b, got)
				}
			}
		}
	}
}

// Promise 13, for each two valid commands.
func TestStateSwapWithoutClash(t *testing.T) {
	state := []int{999, 1, 50, 0, 998, 99}
	list := validCommands()
	for _, a := range list {
		for _, b := range list {
			if !impl.CommandsClash(a, b) && !impl.StateSwap(state, a, b) {
				t.Fatalf("StateSwap(%v, %v, %v) does not hold, and they do not clash", state, a, b)
			}
		}
	}
}

// Promise 15, for each value that a key has and that is put there.
func TestStateSwapReadAndPut(t *testing.T) {
	for key := range 6 {
		for value := range 1000 {
			state := []int{3, 3, 3, 3, 3, 3}
			state[key] = value
			for other := range 100 {
				want := value == other
				if impl.StateSwap(state, read(key), put(key, other)) != want || impl.StateSwap(state, put(key, other), read(key)) != want {
					t.Fatalf("StateSwap(%v, %v, %v) is not %v in both directions", state, read(key), put(key, other), want)
				}
			}
		}
	}
}

func TestStateSwapByKinds(t *testing.T) {
	state := []int{10, 20, 999, 950, 0, 5}
	for _, test := range []struct {
		name string
		a, b impl.Command
		want bool
	}{
		{"both read", read(0), read(0), true},
		{"both read, at two keys", read(0), read(1), true},
		{"both put the same", put(0, 7), put(0, 7), true},
		{"both put what is there", put(0, 10), put(0, 10), true},
		{"both put, not the same", put(0, 7), put(0, 8), false},
		{"one puts what is there", put(0, 10), put(0, 11), false},
		{"both put, at two keys", put(0, 7), put(1, 8), true},
		{"both add", add(0, 7), add(0, 8), true},
		{"both add, and the sum begins again", add(2, 1), add(2, 99), true},
		{"both add, and the sum of both begins again", add(3, 49), add(3, 1), true},
		{"both add, at two keys", add(0, 7), add(5, 8), true},
		{"one reads and one adds", read(0), add(0, 1), false},
		{"one reads and one adds 0", read(0), add(0, 0), true},
		{"one reads and one adds, at two keys", read(0), add(1, 1), true},
		{"one reads and one puts", read(0), put(0, 11), false},
		{"one reads and one puts what is there", read(0), put(0, 10), true},
		{"one reads and one puts the 0 that is there", read(4), put(4, 0), true},
		{"one reads and one puts, at two keys", read(0), put(1, 11), true},
		{"one puts and one adds", put(0, 7), add(0, 1), false},
		{"one puts what is there and one adds", put(0, 10), add(0, 1), false},
		{"one puts and one adds 0", put(0, 7), add(0, 0), true},
		{"one puts what an other one adds up to", put(0, 15), add(0, 5), false},
		{"one puts and one adds, at two keys", put(0, 7), add(1, 1), true},
		{"one does nothing and one reads", none(), read(0), true},
		{"one does nothing and one puts", none(), put(0, 1), true},
		{"one does nothing and one adds", none(), add(0, 1), true},
		{"both do nothing", none(), none(), true},
	} {
		if impl.StateSwap(state, test.a, test.b) != test.want || impl.StateSwap(state, test.b, test.a) != test.want {
			t.Errorf("%s: StateSwap is not %v in both directions", test.name, test.want)
		}
	}
}

func TestStateSwapInvalid(t *testing.T) {
	good := validStates()[2]
	some := []impl.Command{read(0), put(0, 0), add(0, 0), none()}
	for _, state := range invalidStates() {
		for _, c := range some {
			if impl.StateSwap(state, c, c) || impl.StateSwap(state, c, none()) || impl.StateSwap(state, c, read(5)) {
				t.Errorf("StateSwap holds for %v and %v", state, c)
			}
		}
		if bad := (impl.Command{Kind: 4}); impl.StateSwap(state, bad, bad) || impl.StateSwap(state, none(), bad) {
			t.Errorf("StateSwap holds for %v and invalid commands", state)
		}
	}
	for _, bad := range invalidCommands() {
		if impl.StateSwap(good, bad, bad) {
			t.Errorf("StateSwap holds for %v twice", bad)
		}
		for _, c := range some {
			if impl.StateSwap(good, c, bad) || impl.StateSwap(good, bad, c) {
				t.Errorf("StateSwap holds for %v and %v", c, bad)
			}
		}
	}
}

// spoil changes all numbers of a slice, and what is behind its end.
func spoil(list []int) {
	for i := range list {
		list[i] = -77
	}
	for i, far := len(list), append(list, -78, -79); i < len(far); i++ {
		far[i] = -80
	}
	for i, all := len(list), list[:cap(list)]; i < len(all); i++ {
		all[i] = -81
	}
}

// held returns a copy of a state with further numbers behind its end, and what the whole of it is now.
func held(state []int) ([]int, []int) {
	whole := append(append(make([]int, 0, 16), state...), 31, 32, 33, 34)
	return whole[:len(state)], whole
}

func TestStateStepMemory(t *testing.T) {
	for _, c := range []impl.Command{read(1), put(1, 1), put(1, 20), add(1, 0), add(1, 99), none()} {
		given, whole := held([]int{10, 20, 30, 40, 50, 60})
		before := slices.Clone(whole)
		want, _ := wantStep(given, c)
		after, _, ok := impl.StateStep(given, c)
		again, _, okAgain := impl.StateStep(given, c)
		if !ok || !okAgain || !slices.Equal(whole, before) || sharing(given, after, again) {
			t.Fatalf("StateStep of %v changes or shares what it is given", c)
		}
		spoil(after)
		if !slices.Equal(whole, before) || !slices.Equal(again, want) {
			t.Errorf("behind StateStep of %v, its result changes %v or %v", c, whole, again)
		}
		spoil(given)
		if !slices.Equal(again, want) {
			t.Errorf("behind StateStep of %v, its argument changes %v", c, again)
		}
	}
}

func TestStateRunMemory(t *testing.T) {
	for _, few := range [][]impl.Command{{}, {none()}, {read(1)}, {read(0), put(0, 3), add(1, 99), read(1), none(), read(0)}} {
		given, whole := held([]int{10, 20, 30, 40, 50, 60})
		before := slices.Clone(whole)
		list := append(append(make([]impl.Command, 0, 20), few...), put(5, 5), put(4, 4))
		listBefore := slices.Clone(list)
		want, wantResults := wantRun(given, few)
		after, results, ok := impl.StateRun(given, list[:len(few)])
		again, more, okAgain := impl.StateRun(given, list[:len(few)])
		if !ok || !okAgain || !slices.Equal(whole, before) || !slices.Equal(list, listBefore) || sharing(given, list, after, results, again, more) {
			t.Fatalf("StateRun of %v changes or shares what it is given", few)
		}
		spoil(after)
		if !slices.Equal(results, wantResults) || !slices.Equal(whole, before) || !slices.Equal(again, want) {
			t.Errorf("behind StateRun of %v, its state changes %v, %v or %v", few, results, whole, again)
		}
		spoil(results)
		spoil(given)
		for i := range list {
			list[i] = impl.Command{Kind: -1, Key: -1, Value: -1}
		}
		if !slices.Equal(again, want) || !slices.Equal(more, wantResults) {
			t.Errorf("behind StateRun of %v, %v or %v changes with the rest", few, again, more)
		}
	}
}

func TestStateArgumentsStay(t *testing.T) {
	for _, a := range []impl.Command{read(1), put(1, 1), add(1, 99), none(), {Kind: 4}} {
		for _, b := range []impl.Command{read(1), put(1, 2), put(0, 2), add(1, 98), none(), {Kind: -1}} {
			for _, state := range [][]int{{10, 20, 30, 40, 50, 60}, {999, 999, 0, 0, 0, 0}, {1, 2, 3}, {1, 2, 3, 4, 5, 6, 7}, {-1, 1000, 0, 0, 0, 0}} {
				given, whole := held(state)
				before := slices.Clone(whole)
				list := []impl.Command{a, b, a}
				impl.StateValid(given)
				impl.StateStep(given, a)
				impl.StateRun(given, list)
				impl.StateSwap(given, a, b)
				if !slices.Equal(whole, before) || !slices.Equal(list, []impl.Command{a, b, a}) {
					t.Errorf("%v is now %v, %v", before, whole, list)
				}
			}
		}
	}
}
