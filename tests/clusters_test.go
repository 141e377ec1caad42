package tests

import (
	"math"
	"math/rand"
	"reflect"
	"runtime"
	"slices"
	"strings"
	"sync"
	"testing"
	"time"

	"loop.example/leaderlesslog/impl"
)

// clusterOf returns the cluster of a text: the words of stepLog for each log, and a bar between each two.
func clusterOf(text string) impl.Cluster {
	c := impl.Cluster{}
	for _, part := range strings.Split(text, "|") {
		c.Logs = append(c.Logs, stepLog(part))
	}
	return c
}

// deepCluster returns a copy of a cluster that shares no memory with it.
func deepCluster(c impl.Cluster) impl.Cluster {
	return impl.Cluster{Logs: deepLogs(c.Logs)}
}

func sameCluster(a, b impl.Cluster) bool { return sameLogs(a.Logs, b.Logs) }

// withLog returns a copy of a cluster with another log at a place.
func withLog(c impl.Cluster, place int, list []impl.Entry) impl.Cluster {
	c = deepCluster(c)
	c.Logs[place] = deepLog(list)
	return c
}

// sameFixed reports whether two entries have the same command, rank and ids.
func sameFixed(x, y impl.Entry) bool {
	return x.What == y.What && x.Seq == y.Seq && slices.Equal(x.Deps, y.Deps)
}

// wantCluster reports whether a cluster is valid, by the words of the document.
func wantCluster(c impl.Cluster) bool {
	return len(c.Logs) >= 1 && len(c.Logs) <= 5 && !slices.ContainsFunc(c.Logs, func(list []impl.Entry) bool { return !wantLog(list) })
}

// wantAgree reports whether a cluster is valid and agrees, by holding all entries of all logs against each other.
func wantAgree(c impl.Cluster) bool {
	all := fixedOf(slices.Concat(c.Logs...))
	for _, x := range all {
		for _, y := range all {
			if x.Id == y.Id && !sameFixed(x, y) {
				return false
			}
		}
	}
	return wantCluster(c)
}

// wantOthers reports whether some others are one of the sets of n replicas, in order, without a leader.
func wantOthers(n, leader int, others []int) bool {
	return !slices.Contains(others, leader) && slices.ContainsFunc(setsOf(n), func(set []int) bool { return slices.Equal(set, others) })
}

// wantClusterRun returns what ClusterRun has to return, by the words of the document.
func wantClusterRun(c impl.Cluster, leader int, what impl.Command, others []int) (impl.Cluster, impl.Id, int) {
	n := len(c.Logs)
	if !wantCluster(c) || leader < 0 || leader >= n || !valids[what] || !wantOthers(n, leader, others) {
		return impl.Cluster{}, impl.Id{}, -1
	}
	logs, all := slices.Clone(c.Logs), true
	step := func(place int, after []impl.Entry, ok bool) { logs[place], all = after, all && ok }
	after, own, ok := wantPropose(logs[leader], leader, what)
	step(leader, after, ok)
	answers := []impl.Entry{}
	for _, other := range others {
		after, answer, ok := wantPreAccept(logs[other], own)
		step(other, after, ok)
		answers = append(answers, answer)
	}
	path := wantPath(n, own, answers)
	if path == 1 || path == 2 {
		joined, joinable := wantAnswersJoin(own, answers)
		joined.Ballot, joined.Status = 0, 3
		for _, place := range append([]int{leader}, others...) {
			after, ok := wantFix(logs[place], joined)
			step(place, after, ok && joinable)
		}
	}
	if !all || path == -1 {
		return impl.Cluster{}, impl.Id{}, -1
	}
	return impl.Cluster{Logs: logs}, own.Id, path
}

// wantClusterShare returns what ClusterShare has to return, by the words of the document.
func wantClusterShare(c impl.Cluster, from, to int) (impl.Cluster, bool) {
	n := len(c.Logs)
	if !wantCluster(c) || from < 0 || from >= n || to < 0 || to >= n || from == to {
		return impl.Cluster{}, false
	}
	logs := slices.Clone(c.Logs)
	for _, e := range fixedOf(logs[from]) {
		after, ok := wantFix(logs[to], e)
		if !ok {
			return impl.Cluster{}, false
		}
		logs[to] = after
	}
	return impl.Cluster{Logs: logs}, true
}

// checkCluster holds ClusterValid and ClusterAgree of a cluster, whatever it is, against the document.
func checkCluster(t *testing.T, c impl.Cluster) {
	t.Helper()
	before := deepCluster(c)
	if got := impl.ClusterValid(c); got != wantCluster(c) {
		t.Fatalf("ClusterValid(%v) is %v", c, got)
	}
	if got := impl.ClusterAgree(c); got != wantAgree(c) {
		t.Fatalf("ClusterAgree(%v) is %v", c, got)
	}
	if !sameCluster(c, before) {
		t.Fatalf("the cluster %v becomes %v", before, c)
	}
}

// checkClusterRun holds ClusterRun against the document, and against the words of the promises where it succeeds, and returns what it does.
func checkClusterRun(t *testing.T, c impl.Cluster, leader int, what impl.Command, others []int) (impl.Cluster, impl.Id, int) {
	t.Helper()
	before, othersBefore := deepCluster(c), slices.Clone(others)
	want, wantId, wantPath := wantClusterRun(c, leader, what, others)
	got, a, path := impl.ClusterRun(c, leader, what, others)
	if path != wantPath || a != wantId || !sameCluster(got, want) {
		t.Fatalf("ClusterRun(%v, %d, %v, %v) is %v, %v, %d, not %v, %v, %d", c, leader, what, others, got, a, path, want, wantId, wantPath)
	}
	if path != -1 {
		checkClusterRunWords(t, c, leader, what, others)
	}
	if !sameCluster(c, before) || !slices.Equal(others, othersBefore) {
		t.Fatalf("ClusterRun of %v and %v makes them %v and %v", before, othersBefore, c, others)
	}
	return got, a, path
}

// checkClusterRunWords holds ClusterRun that succeeds against the promises 100 to 104, and 110.
func checkClusterRunWords(t *testing.T, c impl.Cluster, leader int, what impl.Command, others []int) {
	t.Helper()
	after, a, path := impl.ClusterRun(c, leader, what, others)
	if !impl.ClusterValid(after) || len(after.Logs) != len(c.Logs) || a != id(leader, impl.NextNumber(c.Logs[leader], leader)) {
		t.Fatalf("ClusterRun(%v, %d, %v, %v) is %v, %v, %d", c, leader, what, others, after, a, path)
	}
	if few := len(others)+1 < impl.SlowSize(len(c.Logs)); few != (path == impl.PathNone) || !few && path != impl.PathFast && path != impl.PathSlow {
		t.Fatalf("ClusterRun(%v, %d, %v, %v) is %v, %v, %d", c, leader, what, others, after, a, path)
	}
	first, _ := impl.LogFind(after.Logs[leader], a)
	elsewhere := false
	for place, list := range after.Logs {
		old, was := impl.LogFind(c.Logs[place], a)
		elsewhere = elsewhere || was
		if place != leader && !slices.Contains(others, place) {
			if !sameLog(list, c.Logs[place]) {
				t.Fatalf("ClusterRun(%v, %d, %v, %v) is %v, and changes %d", c, leader, what, others, after, place)
			}
			continue
		}
		e, found := impl.LogFind(list, a)
		if !found || e.Ballot != 0 || e.What != what || was && (old.Status != impl.StatusSeen || old.Ballot != 0) || !sameLog(without(list, a), without(c.Logs[place], a)) {
			t.Fatalf("ClusterRun(%v, %d, %v, %v) is %v, with %v at %d", c, leader, what, others, after, e, place)
		}
		if path == impl.PathNone && e.Status != impl.StatusSeen || path != impl.PathNone && (e.Status != impl.StatusFixed || !sameFixed(e, first)) {
			t.Fatalf("ClusterRun(%v, %d, %v, %v) is %v, %v, %d, with %v at %d", c, leader, what, others, after, a, path, e, place)
		}
	}
	if impl.ClusterAgree(c) && !elsewhere && !impl.ClusterAgree(after) {
		t.Fatalf("ClusterRun(%v, %d, %v, %v) is %v, and does not agree", c, leader, what, others, after)
	}
	for to := range after.Logs {
		told, ok := impl.ClusterShare(after, leader, to)
		if !ok || path == impl.PathNone {
			continue
		}
		if e, found := impl.LogFind(told.Logs[to], a); !found || e.Status != impl.StatusFixed || !sameFixed(e, first) {
			t.Fatalf("behind ClusterRun(%v, %d, %v, %v), ClusterShare to %d is %v", c, leader, what, others, to, told)
		}
	}
}

// checkClusterShare holds ClusterShare against the document, and against the words of the promises where it succeeds, and returns what it does.
func checkClusterShare(t *testing.T, c impl.Cluster, from, to int) (impl.Cluster, bool) {
	t.Helper()
	before := deepCluster(c)
	want, wantOk := wantClusterShare(c, from, to)
	got, ok := impl.ClusterShare(c, from, to)
	if ok != wantOk || !sameCluster(got, want) {
		t.Fatalf("ClusterShare(%v, %d, %d) is %v, %v, not %v, %v", c, from, to, got, ok, want, wantOk)
	}
	if ok {
		checkClusterShareWords(t, c, from, to)
	}
	if !sameCluster(c, before) {
		t.Fatalf("ClusterShare of %v makes it %v", before, c)
	}
	return got, ok
}

// checkClusterShareWords holds ClusterShare that succeeds against the promises 105 to 107.
func checkClusterShareWords(t *testing.T, c impl.Cluster, from, to int) {
	t.Helper()
	after, _ := impl.ClusterShare(c, from, to)
	left := deepLog(after.Logs[to])
	for _, e := range fixedOf(c.Logs[from]) {
		ballot := e.Ballot
		if old, was := impl.LogFind(c.Logs[to], e.Id); was && old.Status == impl.StatusFixed {
			ballot = old.Ballot
		}
		found, there := impl.LogFind(after.Logs[to], e.Id)
		if !there || found.Status != impl.StatusFixed || !sameFixed(found, e) || found.Ballot != ballot {
			t.Fatalf("ClusterShare(%v, %d, %d) is %v, with %v", c, from, to, after, found)
		}
		left = without(left, e.Id)
	}
	rest := deepLog(c.Logs[to])
	for _, e := range fixedOf(c.Logs[from]) {
		rest = without(rest, e.Id)
	}
	if !impl.ClusterValid(after) || !sameLog(left, rest) || !sameCluster(withLog(after, to, nil), withLog(c, to, nil)) {
		t.Fatalf("ClusterShare(%v, %d, %d) is %v, with something else changed", c, from, to, after)
	}
	if again, ok := impl.ClusterShare(after, from, to); !ok || !sameCluster(again, after) {
		t.Fatalf("ClusterShare(%v, %d, %d) is %v, and again %v, %v", c, from, to, after, again, ok)
	}
	if impl.ClusterAgree(c) && !impl.ClusterAgree(after) {
		t.Fatalf("ClusterShare(%v, %d, %d) is %v, and does not agree", c, from, to, after)
	}
}

// wantNoClusterRun checks that ClusterRun fails, with zero values.
func wantNoClusterRun(t *testing.T, c impl.Cluster, leader int, what impl.Command, others []int) {
	t.Helper()
	before := deepCluster(c)
	if got, a, path := impl.ClusterRun(c, leader, what, others); path != -1 || a != (impl.Id{}) || len(got.Logs) != 0 || !sameCluster(c, before) {
		t.Fatalf("ClusterRun(%v, %d, %v, %v) is %v, %v, %d", before, leader, what, others, got, a, path)
	}
}

// wantNoClusterShare checks that ClusterShare fails, with the zero value.
func wantNoClusterShare(t *testing.T, c impl.Cluster, from, to int) {
	t.Helper()
	before := deepCluster(c)
	if got, ok := impl.ClusterShare(c, from, to); ok || len(got.Logs) != 0 || !sameCluster(c, before) {
		t.Fatalf("ClusterShare(%v, %d, %d) is %v, %v", before, from, to, got, ok)
	}
}

// wantNoCluster checks that all functions tell that a cluster is invalid, also where its logs would fit otherwise.
func wantNoCluster(t *testing.T, c impl.Cluster) {
	t.Helper()
	if impl.ClusterValid(c) || impl.ClusterAgree(c) {
		t.Fatalf("ClusterValid(%v) is %v, and ClusterAgree %v", c, impl.ClusterValid(c), impl.ClusterAgree(c))
	}
	for leader := -1; leader <= len(c.Logs); leader++ {
		next, last := leader+1, len(c.Logs)-1
		for _, others := range [][]int{nil, {}, {next}, {last}, {next, last}, {0, 1, 2, 3, 4}} {
			wantNoClusterRun(t, c, leader, none(), others)
			wantNoClusterRun(t, c, leader, put(1, 1), others)
		}
		for to := -1; to <= len(c.Logs); to++ {
			wantNoClusterShare(t, c, leader, to)
		}
	}
}

// rowOf runs and shares on a cluster what bytes say, and calls a function for each step with what it leads to; a step that fails changes nothing.
func rowOf(c impl.Cluster, bytes []byte, step func(c impl.Cluster, run bool, first, second int, what impl.Command, others []int) (impl.Cluster, bool)) impl.Cluster {
	n := len(c.Logs)
	kinds := []impl.Command{put(1, 7), add(1, 3), read(1), put(2, 9), none(), read(2), add(2, 5), put(1, 8), {Kind: impl.KindPut, Key: 6}}
	for ; len(bytes) >= 3; bytes = bytes[3:] {
		first, second, set := int(bytes[0])%n, int(bytes[1])%n, setsOf(n)[int(bytes[2])%(1<<n)]
		others := slices.DeleteFunc(set, func(replica int) bool { return replica == first && bytes[0] < 250 })
		what := kinds[int(bytes[1])/n%len(kinds)]
		if after, ok := step(c, bytes[0]/5%4 != 0, first, second, what, others); ok {
			c = after
		}
	}
	return c
}

// makeStep runs or shares without holding it against anything.
func makeStep(c impl.Cluster, run bool, first, second int, what impl.Command, others []int) (impl.Cluster, bool) {
	if !run {
		return impl.ClusterShare(c, first, second)
	}
	after, _, path := impl.ClusterRun(c, first, what, others)
	return after, path != -1
}

// someBytes returns any bytes.
func someBytes(random *rand.Rand, many int) []byte {
	bytes := make([]byte, many)
	for i := range bytes {
		bytes[i] = byte(random.Intn(256))
	}
	return bytes
}

// clusterSteps lists clusters to which rows of runs and shares lead, of each number of replicas. They all agree.
func clusterSteps(seed int64, times int) []impl.Cluster {
	random := rand.New(rand.NewSource(seed))
	var list []impl.Cluster
	for range times {
		for n := 1; n <= 5; n++ {
			c, _ := impl.ClusterNew(n)
			list = append(list, rowOf(c, someBytes(random, 3+random.Intn(40)), makeStep))
		}
	}
	return list
}

// clusterTexts lists texts of valid clusters of each number of replicas, some of which do not agree.
func clusterTexts() []string {
	return []string{
		"", "|", "||", "|||", "||||", "fa3p1 tb4r1-a", "sa3p1|fa3p1", "fa3p1|fa3p1|fa3p1", "fa3p1|fa4p1|", "fa3p1|fa3p1-b|sb1n", "ta3p1 sb2r1|fa3p1|fb2r1-a fc3a1-ab",
		"fa3p1 fb5r1-a|fl2p1|fw3p1|", "fk3p1|fk3p1|fa99p2|fz98a1", "fa1n fb1n fc1n fd1n fe1n ff1n fg1n fh1n fi1n fj1n fk1n|sl1n tm1n|fl1n|fa1n|fl1n",
		"fa1p1 fb2p1-a fc3p1-b fd4p1-c fe5p1-d ff6p1-e|fq1p1 fr2p1-q fs3p1-r ft4p1-s fu5p1-t fv6p1-u|fx1r1|", "fa3p1|fa3p1|ta9n|sa8n|fa3p1",
	}
}

// mixedCluster returns a valid cluster of n replicas that know some of a few entries, with any status, and seldom another one with the same id.
func mixedCluster(random *rand.Rand, n int) impl.Cluster {
	few, seldom := inLogOrder(stepLog("fa3p1 fb5r1-a fc4a1-x fl2p2 fm1n fr9r1-abl fw7a2-l fz1p1")), 2+random.Intn(30)
	c := impl.Cluster{}
	for range n {
		list := []impl.Entry{}
		for _, e := range few {
			if random.Intn(3) == 0 {
				continue
			}
			if random.Intn(3) == 0 {
				e.Status = 1 + random.Intn(3)
			}
			if random.Intn(seldom) == 0 {
				e = differing(e)[random.Intn(len(differing(e)))]
			}
			e.Ballot = random.Intn(3)
			list = append(list, deepEntry(e))
		}
		c.Logs = append(c.Logs, list)
	}
	return c
}

// listsOfClusters lists valid clusters: those of texts, those of any logs, those of a few entries, and those to which rows of runs and shares lead.
func listsOfClusters(seed int64, times int) []impl.Cluster {
	random := rand.New(rand.NewSource(seed))
	var list []impl.Cluster
	for _, text := range clusterTexts() {
		list = append(list, clusterOf(text))
	}
	for range times {
		for n := 1; n <= 5; n++ {
			c := impl.Cluster{}
			for range n {
				c.Logs = append(c.Logs, someLog(random, random.Intn(13), []int{4, 60, 99}[random.Intn(3)]))
			}
			list = append(list, c, mixedCluster(random, n))
		}
	}
	return append(list, clusterSteps(seed, times)...)
}

// The helpers themselves must see what the tests rely on.
func TestClusterHelpers(t *testing.T) {
	c := clusterOf("fa3p1 sb4r1-a||ta3p1")
	if len(c.Logs) != 3 || len(c.Logs[1]) != 0 || !sameLog(c.Logs[0], stepLog("fa3p1 sb4r1-a")) || !sameLog(c.Logs[2], stepLog("ta3p1")) || len(clusterOf("").Logs) != 1 {
		t.Errorf("clusterOf is %v", c)
	}
	if d := deepCluster(c); !sameCluster(c, d) || sharing(c, d) || sameCluster(c, withLog(c, 1, stepLog("fa3p1"))) || sameCluster(c, impl.Cluster{Logs: c.Logs[:2]}) {
		t.Errorf("a copy of %v is %v", c, d)
	}
	for _, test := range []struct {
		text   string
		agrees bool
	}{
		{"", true}, {"fa3p1|fa3p1", true}, {"fa3p1|fa4p1", false}, {"fa3p1|fa3r1", false}, {"fa3p1|fa3p1-b", false}, {"fa3p1||fa3p2", false},
		{"fa3p1|ta4p1", true}, {"sa3p1|sa4p1", true}, {"sa3p1|fa4p1|fa4p1", true}, {"fb2n|fa3p1 fb2n|fa3p1-b", false}, {"|||||", false}, {"fb1n fa1n", false},
	} {
		if got := wantAgree(clusterOf(test.text)); got != test.agrees {
			t.Errorf("wantAgree of %q is %v", test.text, got)
		}
	}
	if !wantOthers(3, 0, nil) || !wantOthers(3, 1, []int{0, 2}) || wantOthers(3, 0, []int{0}) || wantOthers(3, 0, []int{2, 1}) || wantOthers(3, 0, []int{3}) || wantOthers(3, 0, []int{1, 1}) {
		t.Errorf("wantOthers is wrong")
	}
	after, a, path := wantClusterRun(clusterOf("fa3p1|fa7p1|fb2n"), 0, put(1, 5), []int{1})
	want := impl.Entry{Id: id(0, 11), Status: 3, What: put(1, 5), Seq: 8, Deps: lettersOf("a")}
	if path != 2 || a != want.Id || len(after.Logs[0]) != 2 || !sameEntry(after.Logs[0][1], want) || !sameEntry(after.Logs[1][1], want) || !sameLog(after.Logs[2], stepLog("fb2n")) {
		t.Errorf("wantClusterRun is %v, %v, %d", after, a, path)
	}
	shared, ok := wantClusterShare(clusterOf("fa3p1 sb4r1 fc5n|sa9n"), 0, 1)
	if !ok || !sameCluster(shared, clusterOf("fa3p1 sb4r1 fc5n|fa3p1 fc5n")) {
		t.Errorf("wantClusterShare is %v, %v", shared, ok)
	}
	agree, differ := 0, 0
	for _, c := range listsOfClusters(99, 5) {
		if !wantCluster(c) {
			t.Errorf("%v should be valid", c)
		}
		if wantAgree(c) {
			agree++
		} else {
			differ++
		}
	}
	if agree < 30 || differ < 10 {
		t.Errorf("only %d clusters agree, and %d differ", agree, differ)
	}
}

// Each number of logs, which may be empty, be nil, or have something.
func TestClusterValidSizes(t *testing.T) {
	for _, list := range [][]impl.Entry{nil, {}, make([]impl.Entry, 0, 12), stepLog("fa3p1"), stepLog("sa3p1-z tb4r1-a fc5n"), alike(validIds()[:12], put(1, 1), 99)} {
		for n := range 12 {
			c := impl.Cluster{}
			for range n {
				c.Logs = append(c.Logs, deepLog(list))
			}
			checkCluster(t, c)
			if want := n >= 1 && n <= impl.ReplicasMax; impl.ClusterValid(c) != want || impl.ClusterAgree(c) != want {
				t.Fatalf("ClusterValid of %d times %v is %v", n, list, impl.ClusterValid(c))
			}
			if n < 1 || n > impl.ReplicasMax {
				wantNoCluster(t, c)
			}
		}
	}
	for _, logs := range [][][]impl.Entry{nil, {}, make([][]impl.Entry, 0, 5), make([][]impl.Entry, 6), make([][]impl.Entry, 256), make([][]impl.Entry, 1<<16+1)} {
		if c := (impl.Cluster{Logs: logs}); impl.ClusterValid(c) || impl.ClusterAgree(c) {
			t.Fatalf("%d logs are valid", len(logs))
		}
	}
	wantNoCluster(t, impl.Cluster{})
	for n := 1; n <= 5; n++ {
		checkCluster(t, impl.Cluster{Logs: make([][]impl.Entry, n)})
		checkCluster(t, impl.Cluster{Logs: make([][]impl.Entry, n, 9)})
	}
}

// A log that is invalid in one part alone, at each place among the logs, and at each place in it.
func TestClusterValidOneInvalid(t *testing.T) {
	base := stepLog("fa3p1 tl4r1-a sz5a1-al")
	for n := 1; n <= 5; n++ {
		c := impl.Cluster{}
		for range n {
			c.Logs = append(c.Logs, deepLog(base))
		}
		checkCluster(t, c)
		for place := range n {
			for at, e := range base {
				for _, wrong := range spoiledEntries(e) {
					bad := deepCluster(c)
					bad.Logs[place][at] = wrong
					checkCluster(t, bad)
					if impl.ClusterValid(bad) || impl.ClusterAgree(bad) {
						t.Fatalf("ClusterValid(%v) is true", bad)
					}
					wantNoClusterRun(t, bad, (place+1)%n, none(), nil)
					wantNoClusterRun(t, bad, place, none(), nil)
					wantNoClusterShare(t, bad, place, (place+1)%n)
					wantNoClusterShare(t, bad, (place+n-1)%n, (place+1)%n)
				}
			}
			for _, list := range [][]impl.Entry{
				stepLog("fl4r1 fa3p1"), stepLog("fa3p1 fa3p1"), stepLog("fa3p1 fl4r1 fa3p1"), stepLog("fa3p1-a"), stepLog("fa3p1-cb"), stepLog("fa0p1"), stepLog("fa100p1"), stepLog("fa3p6"),
				alike(validIds()[:13], none(), 1), alike(validIds(), none(), 1), {{}},
			} {
				wantNoCluster(t, withLog(c, place, list))
				checkCluster(t, withLog(c, place, list))
			}
		}
	}
}

// Promise 99: all numbers around the limits, and far outside.
func TestClusterNew(t *testing.T) {
	numbers := append(edgeSizes(), math.MinInt, math.MaxInt, -1<<32+3, 1<<32+3, 1<<8+2, 1<<16+2)
	for n := -300; n <= 300; n++ {
		numbers = append(numbers, n)
	}
	for _, n := range numbers {
		c, ok := impl.ClusterNew(n)
		if want := n >= 1 && n <= 5; ok != want || !ok && len(c.Logs) != 0 {
			t.Fatalf("ClusterNew(%d) is %v, %v", n, c, ok)
		}
		if !ok {
			continue
		}
		other, _ := impl.ClusterNew(n)
		if len(c.Logs) != n || !impl.ClusterValid(c) || !impl.ClusterAgree(c) || !wantAgree(c) || slices.ContainsFunc(c.Logs, func(list []impl.Entry) bool { return len(list) != 0 }) {
			t.Fatalf("ClusterNew(%d) is %v", n, c)
		}
		for i := range c.Logs {
			c.Logs[i] = append(c.Logs[i], entryOf("a3p1"))
			if next := i + 1; next < n && (len(c.Logs[next]) != 0 || cap(c.Logs[next]) > 0 && c.Logs[next][:1][0].Seq != 0) || len(other.Logs[i]) != 0 || sharing(c, other) {
				t.Fatalf("behind ClusterNew(%d), one log changes another one", n)
			}
		}
	}
}

// runCase is a call of ClusterRun: a path, the rank, and the letters that the new entry depends on where it is known. All is -1, 0 and "" if the call fails.
type runCase struct {
	name, cluster string
	leader        int
	what          impl.Command
	others        []int
	path, rank    int
	deps          string
}

// sizeCases lists calls for each number of replicas, with too few others, just a majority, just a fast set, and all.
func sizeCases() []runCase {
	return []runCase{
		{"one of one", "", 0, put(1, 1), nil, impl.PathFast, 1, ""},
		{"one of one, behind what clashes", "fa3p1", 0, put(1, 1), nil, impl.PathFast, 4, "a"},
		{"one of two", "|", 0, put(1, 1), nil, impl.PathNone, 1, ""},
		{"two of two", "|", 0, put(1, 1), []int{1}, impl.PathFast, 1, ""},
		{"two of two, that differ", "|fa3p1", 0, put(1, 1), []int{1}, impl.PathSlow, 4, "a"},
		{"one of three", "||", 2, put(1, 1), []int{}, impl.PathNone, 1, ""},
		{"two of three", "||", 2, put(1, 1), []int{0}, impl.PathSlow, 1, ""},
		{"two of three, that differ", "fa3p1||", 2, put(1, 1), []int{0}, impl.PathSlow, 4, "a"},
		{"three of three", "||", 1, put(1, 1), []int{0, 2}, impl.PathFast, 1, ""},
		{"three of three, one of which differs", "||fa3p1", 1, put(1, 1), []int{0, 2}, impl.PathSlow, 4, "a"},
		{"one of four", "|||", 3, put(1, 1), nil, impl.PathNone, 1, ""},
		{"two of four", "|||", 3, put(1, 1), []int{2}, impl.PathNone, 1, ""},
		{"three of four", "|||", 3, put(1, 1), []int{0, 2}, impl.PathFast, 1, ""},
		{"three of four, one of which differs", "fa3p1|||", 3, put(1, 1), []int{0, 2}, impl.PathSlow, 4, "a"},
		{"four of four", "|||", 3, put(1, 1), []int{0, 1, 2}, impl.PathFast, 1, ""},
		{"one of five", "||||", 4, put(1, 1), nil, impl.PathNone, 1, ""},
		{"two of five", "||||", 4, put(1, 1), []int{0}, impl.PathNone, 1, ""},
		{"three of five", "||||", 4, put(1, 1), []int{0, 3}, impl.PathSlow, 1, ""},
		{"four of five", "||||", 4, put(1, 1), []int{0, 1, 3}, impl.PathFast, 1, ""},
		{"four of five, one of which differs", "||fl2p1||fa3p1", 0, put(1, 1), []int{1, 3, 4}, impl.PathSlow, 4, "a"},
		{"four of five, none of which differs", "||fl2p1||fa3p1", 0, put(1, 1), []int{1, 2, 3}, impl.PathSlow, 3, "l"},
		{"five of five", "||||", 2, put(1, 1), []int{0, 1, 3, 4}, impl.PathFast, 1, ""},
		{"five of five, the last one of which differs", "||||fa3p1", 2, put(1, 1), []int{0, 1, 3, 4}, impl.PathSlow, 4, "a"},
	}
}

// joinCases lists calls where what all were told is joined, or could be.
func joinCases() []runCase {
	return []runCase{
		{"another rank alone", "fa3p1|fa3p1|fa7p1", 0, put(1, 1), []int{1, 2}, impl.PathSlow, 8, "a"},
		{"another rank alone, of the first one", "fa3p1|fa7p1|fa3p1", 0, read(1), []int{1, 2}, impl.PathSlow, 8, "a"},
		{"other ids alone", "fa3p1|fa3p1|fa3p1 fb2r1", 0, put(1, 1), []int{1, 2}, impl.PathSlow, 4, "ab"},
		{"other ids alone, of the same rank", "fa3p1|fb3p1|fa3p1", 0, put(1, 1), []int{1, 2}, impl.PathSlow, 4, "ab"},
		{"both answers are the same, but not the entry", "fa3p1|fa3p1 fb2r1|fa3p1 fb2r1", 0, put(1, 1), []int{1, 2}, impl.PathSlow, 4, "ab"},
		{"each answer has another id", "|fl2p1|fw3p1", 0, add(1, 1), []int{1, 2}, impl.PathSlow, 4, "lw"},
		{"each log has another id", "fa5p1|fl2p1|fw3p1", 0, add(1, 1), []int{1, 2}, impl.PathSlow, 6, "alw"},
		{"the leader has all already", "fa3p1 fl5r1 fw4p1|fl5r1|fw4p1", 0, put(1, 1), []int{1, 2}, impl.PathFast, 6, "alw"},
		{"the leader alone has something", "fa3p1 fb5r1-a||", 0, put(1, 1), []int{1, 2}, impl.PathFast, 6, "ab"},
		{"who is not told has something", "|fl2p1|fw9p1", 0, put(1, 1), []int{1}, impl.PathSlow, 3, "l"},
		{"nobody is told, and others have something", "sa3p1|fl2p1|fw9p1", 0, put(1, 1), nil, impl.PathNone, 4, "a"},
		{"too few are told, and have something", "|fl2p1|fw9p1||", 0, put(1, 1), []int{2}, impl.PathNone, 1, ""},
		{"nothing clashes", "fa3p2|fl2p2|fw3p3", 0, put(1, 1), []int{1, 2}, impl.PathFast, 1, ""},
		{"adding does not clash with adding", "fa3a1|fl2a1|fw3a1", 1, add(1, 1), []int{0, 2}, impl.PathFast, 1, ""},
		{"reading does not clash with reading", "fa3r1|fl2r1|fw3r1", 1, read(1), []int{0, 2}, impl.PathFast, 1, ""},
		{"what does nothing", "fa3p0|fl2p0|fw3a0", 1, none(), []int{0, 2}, impl.PathFast, 1, ""},
		{"what does nothing, among what does nothing", "fa3n|fl2n|fw3n", 2, none(), []int{0, 1}, impl.PathFast, 1, ""},
		{"all statuses count", "sa3p1|tl4p1|fw5p1", 1, put(1, 1), []int{0, 2}, impl.PathSlow, 6, "alw"},
		{"12 ids together", "|fa1p1 fb1p1 fc1p1 fd1p1 fe1p1 ff1p1|fg1p1 fh1p1 fi1p1 fj1p1 fk1p1 fl1p1", 0, put(1, 1), []int{1, 2}, impl.PathSlow, 2, "abcdefghijkl"},
		{"13 ids together", "|fa1p1 fb1p1 fc1p1 fd1p1 fe1p1 ff1p1|fg1p1 fh1p1 fi1p1 fj1p1 fk1p1 fl1p1 fm1p1", 0, put(1, 1), []int{1, 2}, -1, 0, ""},
		{"13 ids together, all but one of which are told", "|fa1p1 fb1p1 fc1p1 fd1p1 fe1p1 ff1p1|fg1p1 fh1p1 fi1p1 fj1p1 fk1p1 fl1p1 fm1p1", 0, put(1, 1), []int{2}, impl.PathSlow, 2, "ghijklm"},
		{"13 ids together, at one of the others already", "fw1p1 fx1p1|fa1p1 fb1p1 fc1p1 fd1p1 fe1p1 ff1p1 fg1p1 fh1p1 fi1p1 fj1p1 fl1p1|", 0, put(1, 1), []int{1}, -1, 0, ""},
		{"13 ids together, where nothing would be fixed", "fw1p1 fx1p1|fa1p1 fb1p1 fc1p1 fd1p1 fe1p1 ff1p1 fg1p1 fh1p1 fi1p1 fj1p1 fl1p1|||", 0, put(1, 1), []int{1}, -1, 0, ""},
		{"many ids that others have, too", "fa1p1 fb1p1 fc1p1 fd1p1 fe1p1 ff1p1 fg1p1 fh1p1 fi1p1 fj1p1 fl1p1|fa1p1 fb1p1 fc1p1 fd1p1 fe1p1 ff1p1 fg1p1 fh1p1 fi1p1 fj1p1 fl1p1|", 0, put(1, 1), []int{1}, impl.PathSlow, 2, "abcdefghijl"},
	}
}

// failCases lists calls in which one of the functions fails, and others beside them that succeed.
func failCases() []runCase {
	full, almost := "fa1n fb1n fc1n fd1n fe1n ff1n fg1n fh1n fi1n fj1n sl1n tm1n", "fa1n fb1n fc1n fd1n fe1n ff1n fg1n fh1n fi1n fj1n sl1n"
	return []runCase{
		{"the leader's log is full", full + "||", 0, put(1, 1), []int{1, 2}, -1, 0, ""},
		{"the leader's log is full, and nobody is told", full + "||", 0, put(1, 1), nil, -1, 0, ""},
		{"the leader's log is almost full", almost + "||", 0, put(1, 1), []int{1, 2}, impl.PathFast, 1, ""},
		{"the first other's log is full", "|" + full + "|", 0, put(1, 1), []int{1, 2}, -1, 0, ""},
		{"the last other's log is full", "||" + full, 0, put(1, 1), []int{1, 2}, -1, 0, ""},
		{"the only other's log is full", "|" + full + "|", 0, put(1, 1), []int{1}, -1, 0, ""},
		{"the only other's log is full, and nothing would be fixed", "|" + full + "|||", 0, put(1, 1), []int{1}, -1, 0, ""},
		{"the last other's log is almost full", "||" + almost, 0, put(1, 1), []int{1, 2}, impl.PathFast, 1, ""},
		{"the log of one who is not told is full", "||" + full, 0, put(1, 1), []int{1}, impl.PathSlow, 1, ""},
		{"all logs are full", full + "|" + full + "|" + full, 1, put(1, 1), []int{0, 2}, -1, 0, ""},
		{"the leader has the last number", "|fk1n|", 1, put(1, 1), []int{0, 2}, -1, 0, ""},
		{"the leader has the last number, and nobody is told", "|sk1n|", 1, put(1, 1), nil, -1, 0, ""},
		{"another one has the leader's last number", "fk1n|fj1n|tk1n", 1, put(1, 1), []int{0, 2}, impl.PathFast, 1, ""},
		{"the leader has the last number of another one", "fk1n||", 0, put(1, 1), []int{1, 2}, impl.PathFast, 1, ""},
		{"the greatest rank at the leader", "fa99p1||", 0, put(1, 1), []int{1, 2}, -1, 0, ""},
		{"the greatest rank at the leader, and nobody is told", "sa99p1||", 0, put(1, 1), nil, -1, 0, ""},
		{"the greatest rank at the leader, that does not clash", "fa99p2||", 0, put(1, 1), []int{1, 2}, impl.PathFast, 1, ""},
		{"the greatest rank but one at the leader", "fa98p1||", 0, put(1, 1), []int{1, 2}, impl.PathFast, 99, "a"},
		{"the greatest rank at the first other", "|ta99p1|", 0, put(1, 1), []int{1, 2}, -1, 0, ""},
		{"the greatest rank at the last other", "||sa99p1", 0, put(1, 1), []int{1, 2}, -1, 0, ""},
		{"the greatest rank at one who is not told", "||fa99p1", 0, put(1, 1), []int{1}, impl.PathSlow, 1, ""},
		{"the greatest rank but one at the last other", "||fa98p1", 0, put(1, 1), []int{1, 2}, impl.PathSlow, 99, "a"},
	}
}

func TestClusterRunTable(t *testing.T) {
	for _, test := range slices.Concat(sizeCases(), joinCases(), failCases()) {
		c := clusterOf(test.cluster)
		after, a, path := impl.ClusterRun(c, test.leader, test.what, test.others)
		checkClusterRun(t, c, test.leader, test.what, test.others)
		if path != test.path {
			t.Errorf("%s: ClusterRun is %v, %v, %d", test.name, after, a, path)
			continue
		}
		if path == -1 {
			wantNoClusterRun(t, c, test.leader, test.what, test.others)
			continue
		}
		status := impl.StatusFixed
		if path == impl.PathNone {
			status = impl.StatusSeen
		}
		for place, list := range after.Logs {
			e, found := impl.LogFind(list, a)
			told := place == test.leader || slices.Contains(test.others, place)
			if found != told || told && (e.Status != status || e.Ballot != 0 || e.What != test.what) {
				t.Errorf("%s: ClusterRun is %v, %v, %d", test.name, after, a, path)
			}
			// What is only proposed may be another one at each replica.
			if told && (status == impl.StatusFixed || place == test.leader) && (e.Seq != test.rank || asLetters(e.Deps) != test.deps) {
				t.Errorf("%s: ClusterRun is %v, with %v at %d", test.name, after, e, place)
			}
		}
	}
}

// Every leader, in range or not, and all lists of up to three others, in order or not, in range or not.
func TestClusterRunOthers(t *testing.T) {
	seen := map[int]int{}
	for n := 1; n <= 5; n++ {
		lists := [][]int{nil}
		for range 3 {
			for _, list := range slices.Clone(lists) {
				for other := -1; other <= n; other++ {
					lists = append(lists, append(slices.Clip(list), other))
				}
			}
			slices.SortFunc(lists, slices.Compare)
			lists = slices.CompactFunc(lists, slices.Equal)
		}
		c, _ := impl.ClusterNew(n)
		for leader := -1; leader <= n; leader++ {
			for _, others := range slices.Concat(lists, setsOf(n), setsOf(n+1)) {
				_, _, path := checkClusterRun(t, c, leader, put(1, 1), others)
				seen[path]++
				want := leader >= 0 && leader < n && !slices.Contains(others, leader)
				for i, other := range others {
					want = want && other >= 0 && other < n && (i == 0 || others[i-1] < other)
				}
				if want != (path != -1) {
					t.Fatalf("ClusterRun(%v, %d, put, %v) is %d", c, leader, others, path)
				}
			}
		}
	}
	if seen[-1] < 5000 || seen[0] < 50 || seen[1] < 50 || seen[2] < 50 {
		t.Errorf("the paths are only %v", seen)
	}
}

// Replicas that are far outside, in long lists too.
func TestClusterRunFarOthers(t *testing.T) {
	c := clusterOf("fa3p1|fa3p1||")
	for _, far := range []int{math.MinInt, math.MinInt + 1, -1 << 32, -1<<32 + 1, -256, -5, -4, -1, 4, 5, 6, 256, 257, 1 << 32, 1<<32 + 1, math.MaxInt - 1, math.MaxInt} {
		wantNoClusterRun(t, c, far, put(1, 1), nil)
		wantNoClusterRun(t, c, far, put(1, 1), []int{0, 1})
		wantNoClusterRun(t, c, 0, put(1, 1), []int{far})
		wantNoClusterRun(t, c, 0, put(1, 1), []int{far, 1})
		wantNoClusterRun(t, c, 0, put(1, 1), []int{1, far})
		wantNoClusterRun(t, c, 0, put(1, 1), []int{far, far + 1})
		for _, place := range []int{0, 1, far} {
			wantNoClusterShare(t, c, place, far)
			wantNoClusterShare(t, c, far, place)
		}
	}
	for _, others := range [][]int{{1, 1}, {1, 1, 2}, {1, 2, 2}, {1, 2, 1}, {3, 2, 1}, {2, 1}, {0}, {0, 1}, {0, 1, 2, 3}, make([]int, 5000), slices.Repeat([]int{1, 2, 3}, 1000), append(setsOf(4)[14], 4)} {
		wantNoClusterRun(t, c, 0, put(1, 1), others)
	}
	if _, _, path := checkClusterRun(t, c, 0, put(1, 1), []int{1, 2, 3}); path != impl.PathFast {
		t.Errorf("ClusterRun of all is %d", path)
	}
}

// Commands of each kind, and invalid ones, for each path.
func TestClusterRunCommands(t *testing.T) {
	c := clusterOf("fa3p1|fa3p1 fl2a2|fb5r1|fx1n fy2a0|")
	for _, what := range validCommands() {
		for _, others := range [][]int{nil, {1}, {1, 2}, {3, 4}, {2, 3, 4}, {1, 2, 3, 4}} {
			after, a, path := impl.ClusterRun(c, 0, what, others)
			if e, found := impl.LogFind(after.Logs[0], a); path == -1 || !found || e.What != what || a != id(0, 11) {
				t.Fatalf("ClusterRun(%v, 0, %v, %v) is %v, %v, %d", c, what, others, after, a, path)
			}
			if what.Value%13 == 0 {
				checkClusterRun(t, c, 0, what, others)
			}
		}
	}
	for i, what := range invalidCommands() {
		wantNoClusterRun(t, c, i%5, what, nil)
		wantNoClusterRun(t, c, 0, what, []int{1, 2, 3, 4})
	}
}

// One answer that differs in its rank alone, in its ids alone, or in both, or none, at each place, for all sets of others.
func TestClusterRunOneDiffers(t *testing.T) {
	for _, test := range []struct {
		other string
		rank  int
		deps  string
	}{
		{"fa3p1", 4, "a"}, {"fa7p1", 8, "a"}, {"fa98p1", 99, "a"}, {"fa3p1 fl3r1", 4, "al"}, {"fa3p1 fl1r1", 4, "al"}, {"fl3p1", 4, "al"}, {"fa3p1 fl8r1", 9, "al"},
		{"fl8a1", 9, "al"}, {"ta3p1-xyz", 4, "a"}, {"sa3p1 tl99p2", 4, "a"}, {"", 4, "a"}, {"fa1p1", 4, "a"}, {"fa3r1", 4, "a"},
	} {
		for n := 1; n <= 5; n++ {
			for place := range n {
				c := impl.Cluster{}
				for range n {
					c.Logs = append(c.Logs, stepLog("fa3p1"))
				}
				c = withLog(c, place, stepLog(test.other))
				for leader := range n {
					for _, others := range setsOf(n) {
						if place == leader || slices.Contains(others, leader) {
							continue
						}
						after, a, path := checkClusterRun(t, c, leader, put(1, 1), others)
						many, rank, deps := len(others)+1, 4, "a"
						if slices.Contains(others, place) {
							rank, deps = test.rank, test.deps
						}
						want := impl.PathNone
						switch same := rank == 4 && deps == "a"; {
						case many >= wantFast(n) && same:
							want = impl.PathFast
						case many >= wantSlow(n):
							want = impl.PathSlow
						}
						if path != want {
							t.Fatalf("ClusterRun(%v, %d, put, %v) is %v, %d", c, leader, others, after, path)
						}
						if e, _ := impl.LogFind(after.Logs[leader], a); path != impl.PathNone && (e.Seq != rank || asLetters(e.Deps) != deps) {
							t.Fatalf("ClusterRun(%v, %d, put, %v) has %v", c, leader, others, e)
						}
					}
				}
			}
		}
	}
}

// An entry of the id at another replica, with each status, some ballots, and the same or another command: it must be proposed, with no greater ballot than 0.
func TestClusterRunIdIsThere(t *testing.T) {
	for n := 2; n <= 5; n++ {
		for place := 1; place < n; place++ {
			for status := 1; status <= 3; status++ {
				for _, ballot := range []int{0, 1, 5, 999} {
					for _, what := range []impl.Command{put(1, 7), put(1, 8), none()} {
						c, _ := impl.ClusterNew(n)
						c = withLog(c, 0, stepLog("fa3p1"))
						c = withLog(c, place, []impl.Entry{{Id: id(0, 11), Ballot: ballot, Status: status, What: what, Seq: 4, Deps: lettersOf("a")}})
						for _, others := range setsOf(n) {
							if slices.Contains(others, 0) {
								continue
							}
							after, _, path := checkClusterRun(t, c, 0, put(1, 7), others)
							told := slices.Contains(others, place)
							if want := !told || status == impl.StatusSeen && ballot == 0; want != (path != -1) {
								t.Fatalf("ClusterRun(%v, 0, put, %v) is %v, %d", c, others, after, path)
							}
							if path != -1 && !told && !sameLog(after.Logs[place], c.Logs[place]) {
								t.Fatalf("ClusterRun(%v, 0, put, %v) changes %v", c, others, after)
							}
						}
					}
				}
			}
		}
	}
}

// A full log has room for an entry whose id it has already, at each place, and for no other one.
func TestClusterRunFullWithId(t *testing.T) {
	for leader := range 5 {
		others := slices.DeleteFunc(setsOf(5)[31], func(other int) bool { return other == leader })
		place := leader*50 + 20
		for at := range 12 {
			for _, other := range others {
				full := alike(validIds()[place-at:place-at+12], none(), 1)
				c, _ := impl.ClusterNew(5)
				c = withLog(withLog(c, leader, alike([]impl.Id{id(leader, 20)}, none(), 1)), other, full)
				after, a, path := checkClusterRun(t, c, leader, put(1, 1), others)
				if path != impl.PathFast || a != full[at].Id || len(after.Logs[other]) != 12 {
					t.Fatalf("ClusterRun(%v, %d, put, %v) is %v, %v, %d", c, leader, others, after, a, path)
				}
				full[at].Id = id((leader+1)%5, 50)
				wantNoClusterRun(t, withLog(c, other, inLogOrder(full)), leader, put(1, 1), others)
				checkClusterRun(t, withLog(c, other, inLogOrder(full)), leader, put(1, 1), nil)
			}
		}
	}
}

// inLogOrder returns entries in the order of their ids.
func inLogOrder(list []impl.Entry) []impl.Entry {
	list = deepLog(list)
	slices.SortFunc(list, func(x, y impl.Entry) int { return places[x.Id] - places[y.Id] })
	return list
}

// Each number that a leader may have last, for each path.
func TestClusterRunNumbers(t *testing.T) {
	for leader := range 5 {
		for number := 1; number <= 50; number++ {
			c, _ := impl.ClusterNew(5)
			c = withLog(c, leader, []impl.Entry{{Id: id(leader, number), Ballot: number, Status: 1 + number%3, What: put(1, 1), Seq: number}})
			for many := range 5 {
				others := slices.DeleteFunc([]int{0, 1, 2, 3, 4}, func(other int) bool { return other == leader })[:many]
				_, a, path := checkClusterRun(t, c, leader, put(1, 2), others)
				if number == 50 && path != -1 || number < 50 && (a != id(leader, number+1) || path != []int{impl.PathNone, impl.PathNone, impl.PathSlow, impl.PathFast, impl.PathFast}[many]) {
					t.Fatalf("ClusterRun(%v, %d, put, %v) is %v, %d", c, leader, others, a, path)
				}
			}
		}
	}
}

// Runs without a majority: the entry is only proposed, at the replica and at each of the others with what its log adds, and nobody else knows of it.
func TestClusterRunPathNone(t *testing.T) {
	c := clusterOf("fa3p1|fa7p1 fl2r1|tx9p1-a|sy4p1|")
	for leader := range 5 {
		for other := -1; other < 5; other++ {
			others := []int{other}
			if other < 0 {
				others = nil
			}
			if other == leader {
				continue
			}
			after, a, path := checkClusterRun(t, c, leader, put(1, 6), others)
			if path != impl.PathNone {
				t.Fatalf("ClusterRun(%v, %d, put, %v) is %d", c, leader, others, path)
			}
			_, own, _ := impl.Propose(c.Logs[leader], leader, put(1, 6))
			for place, list := range after.Logs {
				e, found := impl.LogFind(list, a)
				_, answer, _ := impl.PreAccept(c.Logs[place], own)
				if place == leader {
					answer = own
				}
				if found != (place == leader || place == other) || found && (!sameEntry(e, answer) || e.Status != impl.StatusSeen) {
					t.Fatalf("ClusterRun(%v, %d, put, %v) is %v", c, leader, others, after)
				}
				for to := range after.Logs {
					if shared, ok := checkClusterShare(t, after, place, to); ok {
						if e, _ := impl.LogFind(shared.Logs[to], a); e.Status == impl.StatusFixed {
							t.Fatalf("behind ClusterRun(%v, %d, put, %v), %v is told", c, leader, others, e)
						}
					}
				}
			}
		}
	}
}

// Promises 100 to 104: any clusters, leaders, others and commands.
func TestClusterRun(t *testing.T) {
	random := rand.New(rand.NewSource(100))
	seen := map[int]int{}
	for _, c := range listsOfClusters(100, 40) {
		checkCluster(t, c)
		n := len(c.Logs)
		for range 12 {
			leader, which := random.Intn(n), random.Intn(1<<n)
			others := slices.DeleteFunc(setsOf(n)[which], func(other int) bool { return other == leader })
			_, _, path := checkClusterRun(t, c, leader, manyCommands(random, 1)[0], others)
			seen[path]++
		}
	}
	if seen[-1] < 200 || seen[0] < 200 || seen[1] < 200 || seen[2] < 200 {
		t.Errorf("the paths are only %v", seen)
	}
}

// A call that fails is the same again, and what fits beside it still succeeds: nothing has changed anywhere.
func TestClusterRunFails(t *testing.T) {
	for _, test := range append(failCases(), joinCases()...) {
		if test.path != -1 {
			continue
		}
		c := clusterOf(test.cluster)
		before := deepCluster(c)
		for range 20 {
			wantNoClusterRun(t, c, test.leader, test.what, test.others)
		}
		for leader := range c.Logs {
			for _, others := range setsOf(len(c.Logs)) {
				checkClusterRun(t, c, leader, none(), others)
			}
		}
		if !sameCluster(c, before) {
			t.Fatalf("%s: the cluster %v becomes %v", test.name, before, c)
		}
	}
}

// shareCase is a call of ClusterShare of the first log to the second one, and the second log behind it, or "no" if it fails.
type shareCase struct{ name, from, to, want string }

func shareCases() []shareCase {
	six, others := "fa1n fb1n fc1n fd1n fe1n ff1n", "fq1n sr1n ts1n ft1n su1n tv1n"
	full := six + " fg1n fh1n fi1n fj1n fk1n fl1n"
	return []shareCase{
		{"nothing", "", "", ""},
		{"nothing, to what is there", "", "fa1n sb1n tc1n", "fa1n sb1n tc1n"},
		{"nothing fixed", "sa1p1 tb2p1-a", "", ""},
		{"nothing fixed, to what is there", "sa1p1 tb2p1-a", "sa3p1 fb4p1", "sa3p1 fb4p1"},
		{"one", "fa1p1", "", "fa1p1"},
		{"some", "fa1p1 sb2p1-a fc3p1-ab td4n", "", "fa1p1 fc3p1-ab"},
		{"all", "fa1p1 fb2p1-a fc3p1-ab fd4n", "", "fa1p1 fb2p1-a fc3p1-ab fd4n"},
		{"what is fixed already", "fa1p1-xy", "fa1p1-xy", "fa1p1-xy"},
		{"what is fixed already, and more", "fa1p1-xy fb2p1", "fa1p1-xy", "fa1p1-xy fb2p1"},
		{"more is fixed already", "fb2p1", "fa1p1-xy fb2p1 fc1n", "fa1p1-xy fb2p1 fc1n"},
		{"what is taken there", "fa1p1", "ta1p1", "fa1p1"},
		{"what is taken there, with another command, rank and ids", "fa1p1-b", "ta7r2-xyz", "fa1p1-b"},
		{"what is proposed there", "fa1p1", "sa1p1", "fa1p1"},
		{"what is proposed there, with another command, rank and ids", "fa1p1-b", "sa7r2-xyz", "fa1p1-b"},
		{"what is proposed is not told", "sa1p1", "", ""},
		{"what is taken is not told", "ta1p1", "", ""},
		{"what is proposed does not go behind", "sa1p1", "ta3p1", "ta3p1"},
		{"what is taken does not go ahead", "ta1p1", "sa3p1", "sa3p1"},
		{"what is taken does not hold what is fixed up", "ta1p1", "fa3p1", "fa3p1"},
		{"to others ahead, between and behind", "fc1p1 fl2p1", "sa1p1 fe1n tz1p1", "sa1p1 fc1p1 fe1n fl2p1 tz1p1"},
		{"between others", "fa1p1 fz1n", "sc1p1 fl2p1", "fa1p1 sc1p1 fl2p1 fz1n"},
		{"another command", "fa1p1", "fa1r1", "no"},
		{"another key", "fa1p1", "fa1p2", "no"},
		{"another rank", "fa1p1", "fa2p1", "no"},
		{"a lesser rank", "fa9p1", "fa8p1", "no"},
		{"other ids", "fa1p1-x", "fa1p1-y", "no"},
		{"more ids", "fa1p1-x", "fa1p1", "no"},
		{"fewer ids", "fa1p1", "fa1p1-x", "no"},
		{"the last one differs", "fa1p1 fb1p1 fc1p1", "fc2p1", "no"},
		{"the first one differs", "fa1p1 fb1p1 fc1p1", "fa2p1", "no"},
		{"one between differs", "fa1p1 fb1p1 fc1p1", "fa1p1 fb2p1 sc9p1", "no"},
		{"one differs that is not fixed", "fa1p1 tb1p1 fc1p1", "fa1p1 fb2p1 sc9p1", "fa1p1 fb2p1 fc1p1"},
		{"a log that becomes full", six, others, six + " " + others},
		{"a log that would become too long", six + " fg1n", others, "no"},
		{"a log that would become too long by the last one alone", six + " fz1n", others, "no"},
		{"a log that stays full", full, full, full},
		{"to a full log what it has as proposed", "fa5p1-z fl7r1", strings.NewReplacer("fa", "sa", "fl", "tl").Replace(full), "fa5p1-z " + full[5:len(full)-4] + "fl7r1"},
		{"to a full log one that it does not have", "fz1n", full, "no"},
		{"to a full log what is not fixed", "ty1n sz1n", full, full},
		{"a full log to an empty one", full, "", full},
		{"a full log to one with another entry", full, "sz1n", "no"},
		{"a full log that is not fixed in one, to one with another entry", full[:len(full)-4] + "sl1n", "sz1n", full[:len(full)-4] + "sz1n"},
	}
}

func TestClusterShareTable(t *testing.T) {
	for _, test := range shareCases() {
		from, to := stepLog(test.from), stepLog(test.to)
		want, ok := []impl.Entry{}, test.want != "no"
		if ok {
			want = stepLog(test.want)
		}
		if !wantLog(from) || !wantLog(to) || !wantLog(want) {
			t.Fatalf("%s: %v, %v or %v is not valid", test.name, from, to, want)
		}
		for n := 2; n <= 5; n++ {
			for first := range n {
				for second := range n {
					if first == second {
						continue
					}
					c, _ := impl.ClusterNew(n)
					for place := range c.Logs {
						c.Logs[place] = stepLog("fm5p1 sn6p1-m")
					}
					c = withLog(withLog(c, first, from), second, to)
					after, fine := checkClusterShare(t, c, first, second)
					if fine != ok || ok && !sameCluster(after, withLog(c, second, want)) {
						t.Fatalf("%s: ClusterShare(%v, %d, %d) is %v, %v", test.name, c, first, second, after, fine)
					}
				}
			}
		}
	}
}

// Every two replicas, the same or not, in range or not.
func TestClusterShareReplicas(t *testing.T) {
	for n := 1; n <= 5; n++ {
		c := impl.Cluster{}
		for place := range n {
			c.Logs = append(c.Logs, stepLog([]string{"fa1n", "fg2p1-a", "sm1n", "fr9r1 fs1n", "fw2n"}[place]))
		}
		for from := -3; from <= n+3; from++ {
			for to := -3; to <= n+3; to++ {
				after, ok := checkClusterShare(t, c, from, to)
				if want := from != to && from >= 0 && from < n && to >= 0 && to < n; ok != want || !ok && len(after.Logs) != 0 {
					t.Fatalf("ClusterShare(%v, %d, %d) is %v, %v", c, from, to, after, ok)
				}
			}
		}
	}
}

// Ballots do not count: an entry that is not fixed yet gets that of the other one, and one that is keeps its own.
func TestClusterShareBallots(t *testing.T) {
	ballots := []int{0, 1, 4, 5, 500, 998, 999}
	for _, first := range ballots {
		for _, second := range ballots {
			for status := 1; status <= 3; status++ {
				c := clusterOf("fl2n|")
				own, other := madeOf("c3p1-ab", first, impl.StatusFixed), madeOf("c3p1-ab", second, status)
				c = withLog(c, 0, append([]impl.Entry{own}, c.Logs[0]...))
				c = withLog(c, 1, []impl.Entry{other})
				after, ok := checkClusterShare(t, c, 0, 1)
				want := first
				if status == impl.StatusFixed {
					want = second
				}
				if e, _ := impl.LogFind(after.Logs[1], own.Id); !ok || e.Ballot != want || e.Status != impl.StatusFixed {
					t.Fatalf("ClusterShare(%v, 0, 1) is %v, %v", c, after, ok)
				}
			}
		}
	}
}

// Promises 105 to 107: what differs in one part alone, at each place of a log, is told only if it is not fixed there.
func TestClusterShareDiffers(t *testing.T) {
	for _, e := range fixtures(7, impl.StatusFixed) {
		for i, other := range append(differing(e), otherBallots(e)...) {
			beside := alike(unusedIds(e, 3), none(), 1)
			if i%3 == 0 {
				beside[i%2].Status = impl.StatusFixed
			}
			for status := 1; status <= 3; status++ {
				other.Status = status
				c := impl.Cluster{Logs: [][]impl.Entry{nil, inLogOrder(append(beside, e)), inLogOrder(append(beside, other))}}
				after, ok := checkClusterShare(t, c, 1, 2)
				if want := status != impl.StatusFixed || sameFixed(e, other); ok != want || ok != impl.ClusterAgree(c) {
					t.Fatalf("ClusterShare(%v, 1, 2) is %v, %v, and ClusterAgree %v", c, after, ok, impl.ClusterAgree(c))
				}
				checkClusterShare(t, c, 2, 1)
			}
		}
	}
}

// Promises 105 to 107: any clusters, between each two replicas.
func TestClusterShare(t *testing.T) {
	seen := map[bool]int{}
	for _, c := range listsOfClusters(105, 40) {
		for from := range c.Logs {
			for to := range c.Logs {
				_, ok := checkClusterShare(t, c, from, to)
				seen[ok]++
			}
		}
	}
	if seen[true] < 500 || seen[false] < 500 {
		t.Errorf("the results are only %v", seen)
	}
}

// Each way to differ, between each two of the logs, where all others have neither, or one of both.
func TestClusterAgreeDiffers(t *testing.T) {
	for _, e := range fixtures(7, impl.StatusFixed) {
		for i, other := range slices.Concat(differing(e), otherBallots(e), []impl.Entry{e}) {
			for n := 1 + i%5; n <= 5; n += 3 {
				for first := range n {
					for second := range n {
						base, _ := impl.ClusterNew(n)
						for _, rest := range [][]impl.Entry{nil, {e}} {
							c := deepCluster(base)
							for place := range c.Logs {
								c.Logs[place] = deepLog(rest)
							}
							c = withLog(withLog(c, first, []impl.Entry{e}), second, []impl.Entry{other})
							// At the same place, the second one stands instead of the first one.
							want := sameFixed(e, other) || n == 1 || first == second && rest == nil
							if got := impl.ClusterAgree(c); got != want {
								t.Fatalf("ClusterAgree(%v) is %v", c, got)
							}
							checkCluster(t, c)
							for status := 1; status <= 2; status++ {
								c.Logs[second][0].Status = status
								if !impl.ClusterAgree(c) {
									t.Fatalf("ClusterAgree(%v) is false", c)
								}
							}
						}
					}
				}
			}
		}
	}
}

// One of several entries differs, at each place of two logs with other entries.
func TestClusterAgreeAmongOthers(t *testing.T) {
	first, second := stepLog("fa3p1 fc5r1-a fl2a1 fm4n sq1n fz9p2-al"), stepLog("sb1n fa3p1 fc5r1-a fl2a1 fm4n tr9n fz9p2-al")
	second = inLogOrder(second)
	for n := 2; n <= 5; n++ {
		for i := range n {
			for j := range n {
				if i == j {
					continue
				}
				c, _ := impl.ClusterNew(n)
				c = withLog(withLog(c, i, first), j, second)
				if !impl.ClusterAgree(c) {
					t.Fatalf("ClusterAgree(%v) is false", c)
				}
				for at, e := range second {
					for _, x := range []impl.Entry{changed(e, func(x *impl.Entry) { x.What = put(5, 50) }), changed(e, func(x *impl.Entry) { x.Seq++ }), changed(e, func(x *impl.Entry) { x.Deps = lettersOf("e") })} {
						bad := deepCluster(c)
						bad.Logs[j][at] = x
						if got := impl.ClusterAgree(bad); got != (e.Status != impl.StatusFixed) {
							t.Fatalf("ClusterAgree(%v) is %v", bad, got)
						}
						checkCluster(t, bad)
					}
				}
			}
		}
	}
}

// Promise 108, by its words, for any clusters.
func TestClusterAgree(t *testing.T) {
	seen := map[bool]int{}
	random := rand.New(rand.NewSource(108))
	check := func(c impl.Cluster) {
		checkCluster(t, c)
		agrees := impl.ClusterAgree(c)
		seen[agrees]++
		for _, x := range slices.Concat(c.Logs...) {
			for _, list := range c.Logs {
				if y, found := impl.LogFind(list, x.Id); agrees && found && x.Status == impl.StatusFixed && y.Status == impl.StatusFixed && !sameFixed(x, y) {
					t.Fatalf("ClusterAgree(%v) is true", c)
				}
			}
		}
	}
	for _, c := range listsOfClusters(108, 60) {
		check(c)
		if all := slices.Concat(c.Logs...); len(all) > 0 {
			// One entry of one log is changed, so that it may be invalid, or differ from what others have.
			place := random.Intn(len(c.Logs))
			for _, e := range c.Logs[place] {
				for _, x := range []impl.Entry{changed(e, func(x *impl.Entry) { x.Seq++ }), changed(e, func(x *impl.Entry) { x.What = manyCommands(random, 1)[0] }), changed(e, func(x *impl.Entry) { x.Deps = sortedIds(random, 1) }), changed(e, func(x *impl.Entry) { x.Status = 3 })} {
					after, _ := wantPut(c.Logs[place], x)
					check(withLog(c, place, after))
				}
			}
		}
	}
	if seen[true] < 500 || seen[false] < 500 {
		t.Errorf("the results are only %v", seen)
	}
}

// Promise 109: three replicas, and any other number of them, that run and tell what any bytes say agree, also where steps fail.
func TestClusterRows(t *testing.T) {
	random := rand.New(rand.NewSource(109))
	seen := map[int]int{}
	for i := range 500 {
		n := 3
		if i%4 == 0 {
			n = 1 + i/4%5
		}
		c, _ := impl.ClusterNew(n)
		last := rowOf(c, someBytes(random, 60), func(c impl.Cluster, run bool, first, second int, what impl.Command, others []int) (impl.Cluster, bool) {
			if !run {
				after, ok := checkClusterShare(t, c, first, second)
				if ok {
					seen[3]++
				} else {
					seen[4]++
				}
				return after, ok
			}
			after, _, path := checkClusterRun(t, c, first, what, others)
			seen[path]++
			return after, path != -1
		})
		checkCluster(t, last)
		if !impl.ClusterAgree(last) {
			t.Fatalf("%v does not agree", last)
		}
	}
	for _, what := range []int{-1, 0, 1, 2, 3, 4} {
		if seen[what] < 300 {
			t.Errorf("the steps are only %v", seen)
		}
	}
}

// Rows of three replicas that are written down, and what each log has then.
func TestClusterRowTable(t *testing.T) {
	c, _ := impl.ClusterNew(3)
	run := func(leader int, what impl.Command, others []int, want int, wantId impl.Id) {
		t.Helper()
		after, a, path := checkClusterRun(t, c, leader, what, others)
		if path != want || a != wantId {
			t.Fatalf("ClusterRun(%v, %d, %v, %v) is %v, %v, %d", c, leader, what, others, after, a, path)
		}
		if path != -1 {
			c = after
		}
	}
	share := func(from, to int, want bool) {
		t.Helper()
		after, ok := checkClusterShare(t, c, from, to)
		if ok != want {
			t.Fatalf("ClusterShare(%v, %d, %d) is %v, %v", c, from, to, after, ok)
		}
		if ok {
			c = after
		}
	}
	run(0, put(1, 7), []int{1}, impl.PathSlow, id(0, 1))
	run(2, put(1, 8), []int{1}, impl.PathSlow, id(2, 1))
	share(0, 2, true)
	run(0, read(1), []int{1, 2}, impl.PathSlow, id(0, 2))
	run(1, add(1, 2), nil, impl.PathNone, id(1, 1))
	run(1, none(), []int{0, 2}, impl.PathFast, id(1, 2))
	run(0, put(9, 9), []int{1}, -1, impl.Id{})
	run(0, put(1, 9), []int{0}, -1, impl.Id{})
	share(1, 1, false)
	share(1, 0, true)
	run(0, read(1), []int{1, 2}, impl.PathSlow, id(0, 3))
	wants := []string{
		"0.1 1 | 0.2 3 0.1 2.1 | 0.3 5 0.1 1.1 2.1 | 1.2 1 | 2.1 2 0.1",
		"0.1 1 | 0.2 3 0.1 2.1 | 0.3 5 0.1 1.1 2.1 | 1.1 4 0.1 0.2 2.1 | 1.2 1 | 2.1 2 0.1",
		"0.1 1 | 0.2 3 0.1 2.1 | 0.3 5 0.1 1.1 2.1 | 1.2 1 | 2.1 2 0.1",
	}
	for place, want := range wants {
		var words []string
		for _, e := range c.Logs[place] {
			word := impl.IdText(e.Id) + " " + string(rune('0'+e.Seq))
			for _, a := range e.Deps {
				word += " " + impl.IdText(a)
			}
			words = append(words, word)
			if (e.Id == id(1, 1)) != (e.Status == impl.StatusSeen) || e.Status == impl.StatusTaken {
				t.Errorf("%d has %v", place, e)
			}
		}
		if got := strings.Join(words, " | "); got != want {
			t.Errorf("%d has %s, not %s", place, got, want)
		}
	}
	if !impl.ClusterAgree(c) {
		t.Errorf("%v does not agree", c)
	}
}

// Promise 110: what a run has fixed is told to each replica, if it has room for all that the leader has.
func TestClusterRunThenShare(t *testing.T) {
	told, failed := 0, 0
	random := rand.New(rand.NewSource(110))
	for _, c := range clusterSteps(110, 60) {
		n := len(c.Logs)
		leader := random.Intn(n)
		for _, others := range setsOf(n) {
			after, a, path := impl.ClusterRun(c, leader, put(1, 44), others)
			for to := range after.Logs {
				if path < impl.PathFast || to == leader {
					continue
				}
				shared, ok := checkClusterShare(t, after, leader, to)
				if !ok {
					failed++
					continue
				}
				told++
				if e, found := impl.LogFind(shared.Logs[to], a); !found || e.Status != impl.StatusFixed || e.What != put(1, 44) {
					t.Fatalf("ClusterShare(%v, %d, %d) is %v", after, leader, to, shared)
				}
			}
		}
	}
	if told < 500 || failed < 1 {
		t.Errorf("only %d were told, and %d failed", told, failed)
	}
}

// clusterCall is a call of ClusterRun, or of ClusterShare with the leader and the first one of the others.
type clusterCall struct {
	run    bool
	leader int
	what   impl.Command
	others []int
}

// clusterResult is what a call of one of both returns. ClusterShare returns no id, and 0 or -1 as the path.
type clusterResult struct {
	c    impl.Cluster
	a    impl.Id
	path int
}

func (x clusterResult) same(y clusterResult) bool {
	return sameCluster(x.c, y.c) && x.a == y.a && x.path == y.path
}

func (x clusterCall) of(c impl.Cluster) clusterResult {
	if x.run {
		after, a, path := impl.ClusterRun(c, x.leader, x.what, x.others)
		return clusterResult{after, a, path}
	}
	after, ok := impl.ClusterShare(c, x.leader, x.others[0])
	if !ok {
		return clusterResult{after, impl.Id{}, -1}
	}
	return clusterResult{after, impl.Id{}, 0}
}

// callsFor lists calls for a cluster: runs of each leader with no, some and all others, shares between some, and calls that fail.
func callsFor(c impl.Cluster) []clusterCall {
	n := len(c.Logs)
	calls := []clusterCall{{true, 0, put(9, 9), nil}, {true, n, put(1, 1), nil}, {true, 0, none(), []int{0}}, {true, 0, none(), []int{n}}, {false, 0, none(), []int{0}}, {false, 0, none(), []int{n}}}
	for leader := range n {
		all := slices.DeleteFunc(setsOf(n)[1<<n-1], func(other int) bool { return other == leader })
		calls = append(calls, clusterCall{true, leader, put(1, 6), nil}, clusterCall{true, leader, put(1, 6), all[:len(all)/2]}, clusterCall{true, leader, read(1), all[len(all)/2:]}, clusterCall{true, leader, add(1, 6), all})
		calls = append(calls, clusterCall{false, leader, none(), []int{(leader + 1) % n}}, clusterCall{false, leader, none(), []int{(leader + n - 1) % n}})
	}
	return calls
}

// The same call gives the same result, however often it is made, however many processors there are, and whatever else runs.
func TestClusterAgain(t *testing.T) {
	defer runtime.GOMAXPROCS(runtime.GOMAXPROCS(0))
	list := append(listsOfClusters(111, 2), clusterOf("fa3p1|fl2p1|fw3p1|sy9r1|tz8p1"))
	for _, c := range list {
		for _, call := range callsFor(c) {
			runtime.GOMAXPROCS(1)
			want := call.of(c)
			for round := range 12 {
				runtime.GOMAXPROCS([]int{1, 2, 4, 8}[round%4])
				if got := call.of(c); !got.same(want) {
					t.Fatalf("%v of %v is %v, and again %v", call, c, want, got)
				}
			}
		}
	}
	c := list[len(list)-1]
	call := clusterCall{true, 0, put(1, 6), []int{1, 2, 3, 4}}
	want := call.of(c)
	if e := want.c.Logs[4][len(want.c.Logs[4])-1]; want.path != impl.PathSlow || len(want.c.Logs[0]) != 2 || e.Id != letter('z') {
		t.Fatalf("%v of %v is %v", call, c, want)
	}
	for round := range 4000 {
		runtime.GOMAXPROCS([]int{8, 2, 1, 3}[round/1000])
		if got := call.of(c); !got.same(want) {
			t.Fatalf("%v of %v is %v, and again %v", call, c, want, got)
		}
	}
}

// Many calls at one time with the same arguments, which nobody may write to.
func TestClusterAtOneTime(t *testing.T) {
	for _, c := range append(listsOfClusters(112, 1), clusterOf("fa3p1|fl2p1|fw3p1|sy9r1|tz8p1")) {
		calls := callsFor(c)
		want := make([]clusterResult, len(calls))
		for i, call := range calls {
			want[i] = call.of(c)
		}
		var all sync.WaitGroup
		wrong := make([]bool, 8)
		for worker := range wrong {
			all.Add(1)
			go func() {
				defer all.Done()
				for i := range calls {
					which := (i*(worker+1) + worker) % len(calls)
					got := calls[which].of(c)
					wrong[worker] = wrong[worker] || !got.same(want[which]) || !impl.ClusterValid(c) || impl.ClusterAgree(c) != wantAgree(c)
					// A result is of this worker alone.
					for _, list := range got.c.Logs {
						spoilLog(list)
					}
				}
			}()
		}
		all.Wait()
		if slices.Contains(wrong, true) {
			t.Fatalf("at one time, calls for %v return something else", c)
		}
	}
}

// goroutinesLeft reports how many goroutines are still in the program, or were started by it.
func goroutinesLeft() int {
	text := make([]byte, 1<<20)
	text = text[:runtime.Stack(text, true)]
	left := 0
	for _, one := range strings.Split(string(text), "\n\n") {
		if strings.Contains(one, "leaderlesslog/impl.") {
			left++
		}
	}
	return left
}

// wantNoneLeft checks that there is no goroutine of the program, or as many as before. One that has told that it is done may need a moment to vanish, but one that waits for something never does.
func wantNoneLeft(t *testing.T, before int) {
	t.Helper()
	for round := 0; goroutinesLeft() > 0 || runtime.NumGoroutine() > before; round++ {
		if round == 2000 {
			t.Fatalf("%d goroutines are left, and there were %d of %d", goroutinesLeft(), before, runtime.NumGoroutine())
		}
		time.Sleep(time.Millisecond)
	}
}

// No goroutine is left when a call has returned, whether it succeeds or fails.
func TestClusterGoroutines(t *testing.T) {
	before := runtime.NumGoroutine()
	fails, works := 0, 0
	for _, test := range slices.Concat(sizeCases(), joinCases(), failCases()) {
		c := clusterOf(test.cluster)
		for range 3 {
			if _, _, path := impl.ClusterRun(c, test.leader, test.what, test.others); path == -1 {
				fails++
			} else {
				works++
			}
		}
		wantNoneLeft(t, before)
	}
	for _, test := range shareCases() {
		c := clusterOf(test.from + "|" + test.to + "|")
		for range 3 {
			if _, ok := impl.ClusterShare(c, 0, 1); ok {
				works++
			} else {
				fails++
			}
		}
		wantNoneLeft(t, before)
	}
	for _, c := range append(listsOfClusters(113, 2), impl.Cluster{}, clusterOf("fb1n fa1n||"), clusterOf("|||||")) {
		for _, call := range callsFor(c) {
			call.of(c)
		}
		impl.ClusterValid(c)
		impl.ClusterAgree(c)
		wantNoneLeft(t, before)
	}
	if fails < 40 || works < 100 {
		t.Errorf("only %d calls fail, and %d do not", fails, works)
	}
}

// A call waits for its goroutines: on one processor, they have vanished as soon as it has returned, unless they were interrupted just then.
func TestClusterJoins(t *testing.T) {
	defer runtime.GOMAXPROCS(runtime.GOMAXPROCS(1))
	c, fails := clusterOf("fa3p1|fl2p1|fw3p1|sy9r1|tz8p1"), clusterOf("fa3p1|fa99p1|fw3p1|sy9r1|fa4p1")
	before := runtime.NumGoroutine()
	calls := map[string]func(){
		"a run":              func() { impl.ClusterRun(c, 0, put(1, 6), []int{1, 2, 3, 4}) },
		"a run of nobody":    func() { impl.ClusterRun(c, 0, put(1, 6), nil) },
		"a run that fails":   func() { impl.ClusterRun(fails, 0, put(1, 6), []int{1, 2, 3, 4}) },
		"a share":            func() { impl.ClusterShare(c, 0, 4) },
		"a share that fails": func() { impl.ClusterShare(fails, 0, 4) },
	}
	for name, call := range calls {
		left := 0
		for range 100 {
			call()
			if runtime.NumGoroutine() > before {
				left++
			}
			wantNoneLeft(t, before)
		}
		if left > 50 {
			t.Errorf("%s leaves goroutines %d times of 100", name, left)
		}
	}
}

// spoilLogs changes all logs of a slice, and what is behind its end.
func spoilLogs(logs [][]impl.Entry) {
	for i := range logs {
		spoilLog(logs[i])
		logs[i] = stepLog("fz77n")
	}
	for i, far := len(logs), append(logs, nil, nil); i < len(far); i++ {
		far[i] = stepLog("fz78n")
	}
	for i, all := len(logs), logs[:cap(logs)]; i < len(all); i++ {
		all[i] = stepLog("fz79n")
	}
}

// roomyCluster returns a cluster in a longer memory, whose logs and their ids are in a longer memory too, and all of that memory.
func roomyCluster(c impl.Cluster) (impl.Cluster, [][]impl.Entry, [][]impl.Id) {
	logs, wholes := make([][]impl.Entry, 0, len(c.Logs)+8), [][]impl.Entry{}
	var rows [][]impl.Id
	for _, list := range c.Logs {
		given, whole, own := roomyLog(list)
		logs, wholes, rows = append(logs, given), append(wholes, whole), append(rows, own...)
	}
	return impl.Cluster{Logs: logs}, wholes, rows
}

// checkClusterMemory checks that no function changes its arguments, or gives out their memory, that of another result, or that of another log.
func checkClusterMemory(t *testing.T, c impl.Cluster, call clusterCall) {
	t.Helper()
	given, wholes, rows := roomyCluster(c)
	others, wholeOthers := held(call.others)
	call.others = others
	before, rowsBefore, roomsBefore, othersBefore := deepLogs(wholes), deepRows(rows), roomsOf(reflect.ValueOf(given)), slices.Clone(wholeOthers)
	unchanged := func() bool {
		behind := given.Logs[len(given.Logs):cap(given.Logs)]
		return sameLogs(wholes, before) && sameRows(rows, rowsBefore) && slices.Equal(roomsOf(reflect.ValueOf(given)), roomsBefore) && slices.Equal(wholeOthers, othersBefore) &&
			!slices.ContainsFunc(behind, func(list []impl.Entry) bool { return list != nil })
	}
	impl.ClusterValid(given)
	impl.ClusterAgree(given)
	first, second := call.of(given), call.of(given)
	want := deepCluster(second.c)
	if !unchanged() || !first.same(second) || sharing(given, wholeOthers, first.c, second.c) {
		t.Fatalf("%v of %v changes or shares what it is given", call, c)
	}
	for i, list := range first.c.Logs {
		for j := range list {
			spoilIds(list[j].Deps)
			list[j].Seq = -7
			if !sameLog(list[j+1:], want.Logs[i][j+1:]) {
				t.Fatalf("behind %v of %v, one entry changes another one", call, c)
			}
		}
		spoilLog(list)
		if !unchanged() || !sameCluster(second.c, want) || !sameLogs(first.c.Logs[i+1:], want.Logs[i+1:]) {
			t.Fatalf("behind %v of %v, one log changes another one, an argument or another result", call, c)
		}
	}
	spoilLogs(first.c.Logs)
	if !unchanged() || !sameCluster(second.c, want) {
		t.Fatalf("behind %v of %v, its result changes an argument or another result", call, c)
	}
	for _, row := range rows {
		spoilIds(row)
	}
	spoilLogs(given.Logs)
	spoil(others)
	if !sameCluster(second.c, want) {
		t.Fatalf("behind %v of %v, its argument changes a result", call, c)
	}
}

// Also where nothing was changed in a log, where a call fails, and for invalid clusters.
func TestClusterMemory(t *testing.T) {
	for _, c := range append(listsOfClusters(114, 3), impl.Cluster{}, clusterOf("fb1n fa1n||"), clusterOf("fa1n-a fb1n|"), clusterOf("|fa0n-b fb1n"), clusterOf("fa1n-cb fb1n fc1n"), clusterOf("fa1n-b|||||")) {
		for _, call := range callsFor(c) {
			checkClusterMemory(t, c, call)
		}
	}
	for _, test := range slices.Concat(sizeCases(), joinCases(), failCases()) {
		checkClusterMemory(t, clusterOf(test.cluster), clusterCall{true, test.leader, test.what, test.others})
	}
	for _, test := range shareCases() {
		checkClusterMemory(t, clusterOf("fa1p1-b|"+test.from+"|"+test.to), clusterCall{false, 1, none(), []int{2}})
	}
}

// Logs of a cluster may be the same, be parts of one memory that overlap, and depend on the same memory.
func TestClusterOneMemory(t *testing.T) {
	deps, whole := roomy(lettersOf("abcd"))
	list := []impl.Entry{
		{Id: letter('e'), Status: 3, What: put(1, 1), Seq: 1, Deps: deps},
		{Id: letter('f'), Status: 1, What: put(1, 2), Seq: 2, Deps: deps[1:3]},
		{Id: letter('g'), Status: 3, What: put(1, 3), Seq: 3, Deps: deps[:0]},
		{Id: letter('h'), Status: 2, What: read(1), Seq: 4, Deps: deps[2:]},
	}
	for _, c := range []impl.Cluster{{Logs: [][]impl.Entry{list, list, list}}, {Logs: [][]impl.Entry{list[:2], list[1:], list[3:], list[:0], list}}, {Logs: [][]impl.Entry{list[:1], list[:3]}}} {
		before, idsBefore := deepCluster(c), slices.Clone(whole)
		for _, call := range callsFor(c) {
			want := call.of(before)
			first, second := call.of(c), call.of(c)
			if !first.same(want) || sharing(whole, first.c, second.c) {
				t.Fatalf("%v of %v is %v, or shares what it is given", call, before, first)
			}
			for i, log := range first.c.Logs {
				spoilLog(log)
				if !sameLogs(first.c.Logs[i+1:], want.c.Logs[i+1:]) || !sameCluster(c, before) || !slices.Equal(whole, idsBefore) || !second.same(want) {
					t.Fatalf("behind %v of %v, one log changes another one, an argument or another result", call, before)
				}
			}
		}
	}
}

func FuzzClusters(f *testing.F) {
	f.Add([]byte{}, byte(2))
	f.Add([]byte{5, 0, 2, 6, 1, 1, 7, 2, 3, 0, 1, 0, 9, 7, 7}, byte(2))
	f.Add([]byte{5, 0, 2, 2, 1, 1, 0, 2, 3, 1, 1, 0, 11, 7, 7, 255, 30, 7}, byte(4))
	f.Add([]byte{11, 3, 6, 11, 3, 6, 11, 3, 6, 11, 3, 6, 11, 3, 6, 11, 3, 6, 11, 3, 6, 11, 3, 6, 11, 3, 6, 11, 3, 6, 11, 3, 6, 11, 3, 6, 11, 3, 6, 0, 1, 2}, byte(2))
	f.Add([]byte{254, 0, 7, 250, 1, 1, 9, 8, 7, 6, 5, 4}, byte(0))
	f.Fuzz(func(t *testing.T, bytes []byte, many byte) {
		c, ok := impl.ClusterNew(1 + int(many)%5)
		if !ok {
			t.Fatalf("ClusterNew of %d fails", many)
		}
		last := rowOf(c, bytes[:min(90, len(bytes))], func(c impl.Cluster, run bool, first, second int, what impl.Command, others []int) (impl.Cluster, bool) {
			checkClusterMemory(t, c, clusterCall{run, first, what, append(others, second)[:max(1, len(others))]})
			if !run {
				return checkClusterShare(t, c, first, second)
			}
			after, _, path := checkClusterRun(t, c, first, what, others)
			return after, path != -1
		})
		checkCluster(t, last)
		if !impl.ClusterAgree(last) {
			t.Fatalf("%v does not agree", last)
		}
	})
}
