package tests

import (
	"math"
	"math/rand"
	"slices"
	"strconv"
	"strings"
	"testing"
	"time"

	"loop.example/leaderlesslog/impl"
)

// letter returns the id that a small letter stands for in the graphs of these tests. They ascend, several at each replica.
func letter(c byte) impl.Id { return validIds()[int(c-'a')*9+9] }

// lettersOf returns the ids that letters stand for.
func lettersOf(text string) []impl.Id {
	list := []impl.Id{}
	for i := range len(text) {
		list = append(list, letter(text[i]))
	}
	return list
}

// asLetters returns the letters of ids, and ? for an id that has none.
func asLetters(list []impl.Id) string {
	text := ""
	for _, a := range list {
		place, valid := places[a]
		if c := byte('a' + (place-9)/9); valid && place >= 9 && letter(c) == a {
			text += string(c)
		} else {
			text += "?"
		}
	}
	return text
}

// graph returns the nodes of a text: of each one the letter, the rank, and the letters that it depends on.
func graph(text string) []impl.Node {
	list := []impl.Node{}
	for _, word := range strings.Fields(text) {
		deps := strings.TrimLeft(word[1:], "0123456789")
		rank, _ := strconv.Atoi(word[1 : len(word)-len(deps)])
		list = append(list, impl.Node{Id: letter(word[0]), Seq: rank, Deps: lettersOf(deps)})
	}
	return list
}

// wantNodes reports whether nodes are valid, by the words of the document.
func wantNodes(list []impl.Node) bool {
	var ids []impl.Id
	for _, n := range list {
		_, valid := places[n.Id]
		if !valid || n.Seq < 1 || n.Seq > 99 || !wantSorted(n.Deps) || slices.Contains(n.Deps, n.Id) {
			return false
		}
		ids = append(ids, n.Id)
	}
	return wantSorted(ids)
}

// oracle tells of valid nodes what each of them reaches, by steps until nothing is added.
type oracle struct {
	nodes map[impl.Id]impl.Node
	reach map[impl.Id]map[impl.Id]bool
}

func oracleOf(list []impl.Node) oracle {
	o := oracle{map[impl.Id]impl.Node{}, map[impl.Id]map[impl.Id]bool{}}
	if !wantNodes(list) {
		return o
	}
	for _, n := range list {
		o.nodes[n.Id] = n
		o.reach[n.Id] = map[impl.Id]bool{}
	}
	for changed := true; changed; {
		changed = false
		for a, n := range o.nodes {
			many := len(o.reach[a])
			for _, b := range n.Deps {
				if _, there := o.nodes[b]; there {
					o.reach[a][b] = true
					for c := range o.reach[b] {
						o.reach[a][c] = true
					}
				}
			}
			changed = changed || len(o.reach[a]) > many
		}
	}
	return o
}

// sorted returns in order the ids of nodes for which a condition holds.
func (o oracle) sorted(holds func(impl.Id) bool) []impl.Id {
	list := []impl.Id{}
	for a := range o.nodes {
		if holds(a) {
			list = append(list, a)
		}
	}
	return inOrder(list)
}

func (o oracle) wantReach(a impl.Id) []impl.Id {
	return o.sorted(func(b impl.Id) bool { return o.reach[a][b] })
}

func (o oracle) inGroup(a, b impl.Id) bool {
	_, there := o.nodes[a]
	return there && (a == b || o.reach[a][b] && o.reach[b][a])
}

func (o oracle) wantGroup(a impl.Id) []impl.Id {
	return o.sorted(func(b impl.Id) bool { return o.inGroup(a, b) })
}

func (o oracle) wantReady(a impl.Id) bool {
	if _, there := o.nodes[a]; !there {
		return false
	}
	for _, b := range append(o.wantReach(a), a) {
		for _, c := range o.nodes[b].Deps {
			if _, there := o.nodes[c]; !there {
				return false
			}
		}
	}
	return true
}

// bySoonest returns ids of nodes in order by rank, and by id for the same rank.
func (o oracle) bySoonest(list []impl.Id) []impl.Id {
	return slices.SortedFunc(slices.Values(list), func(a, b impl.Id) int {
		return (o.nodes[a].Seq-o.nodes[b].Seq)*1000 + places[a] - places[b]
	})
}

// wantOrder runs nodes as the document tells, node by node.
func (o oracle) wantOrder() []impl.Id {
	ready := o.sorted(o.wantReady)
	order := []impl.Id{}
	for {
		can := []impl.Id{}
		for _, a := range ready {
			waits := slices.ContainsFunc(o.wantReach(a), func(b impl.Id) bool { return !o.inGroup(a, b) && !slices.Contains(order, b) })
			if !waits && !slices.Contains(order, a) {
				can = append(can, a)
			}
		}
		if len(can) == 0 {
			return order
		}
		order = append(order, o.bySoonest(o.wantGroup(o.bySoonest(can)[0]))...)
	}
}

// askedIds lists ids to ask for: all nodes, all that they depend on, and others that are no nodes or invalid.
func askedIds(list []impl.Node) []impl.Id {
	asked := []impl.Id{{}, id(-1, 1), id(5, 1), id(0, 51), id(2, 25)}
	for _, n := range list {
		asked = append(asked, n.Id, id(n.Id.Replica, n.Id.Number+1))
	}
	for _, n := range list {
		for _, a := range n.Deps {
			if !slices.Contains(asked, a) {
				asked = append(asked, a)
			}
		}
	}
	return asked
}

// deepNodes returns a copy of nodes that shares no memory with them.
func deepNodes(list []impl.Node) []impl.Node {
	copied := slices.Clone(list)
	for i, n := range copied {
		copied[i].Deps = slices.Clone(n.Deps)
	}
	return copied
}

func sameNodes(a, b []impl.Node) bool {
	return slices.EqualFunc(a, b, func(x, y impl.Node) bool {
		return x.Id == y.Id && x.Seq == y.Seq && slices.Equal(x.Deps, y.Deps)
	})
}

// checkGraph holds all functions of nodes, whatever they are, against the document.
func checkGraph(t *testing.T, list []impl.Node) {
	t.Helper()
	before := deepNodes(list)
	o := oracleOf(list)
	if got := impl.NodesValid(list); got != wantNodes(list) {
		t.Fatalf("NodesValid(%v) is %v", list, got)
	}
	for _, a := range askedIds(list) {
		if got, want := impl.NodesReach(list, a), o.wantReach(a); !slices.Equal(got, want) {
			t.Fatalf("NodesReach(%v, %v) is %v, not %v", list, a, got, want)
		}
		if got, want := impl.NodesGroup(list, a), o.wantGroup(a); !slices.Equal(got, want) {
			t.Fatalf("NodesGroup(%v, %v) is %v, not %v", list, a, got, want)
		}
		if got, want := impl.NodesReady(list, a), o.wantReady(a); got != want {
			t.Fatalf("NodesReady(%v, %v) is %v", list, a, got)
		}
	}
	if got, want := impl.NodesOrder(list), o.wantOrder(); !slices.Equal(got, want) {
		t.Fatalf("NodesOrder(%v) is %v, not %v", list, got, want)
	}
	if !sameNodes(list, before) {
		t.Fatalf("the nodes %v become %v", before, list)
	}
}

// wantNoNodes checks that all functions tell that nodes are invalid.
func wantNoNodes(t *testing.T, list []impl.Node) {
	t.Helper()
	if impl.NodesValid(list) {
		t.Fatalf("%v is valid", list)
	}
	if got := impl.NodesOrder(list); len(got) != 0 {
		t.Fatalf("NodesOrder(%v) is %v", list, got)
	}
	for _, a := range askedIds(list) {
		reach, group, ready := impl.NodesReach(list, a), impl.NodesGroup(list, a), impl.NodesReady(list, a)
		if len(reach) != 0 || len(group) != 0 || ready {
			t.Fatalf("of %v, NodesReach of %v is %v, NodesGroup %v, and NodesReady %v", list, a, reach, group, ready)
		}
	}
}

// idsOfNodes lists the ids of nodes.
func idsOfNodes(list []impl.Node) []impl.Id {
	var ids []impl.Id
	for _, n := range list {
		ids = append(ids, n.Id)
	}
	return ids
}

// depsOf returns what the node with an id depends on.
func depsOf(list []impl.Node, a impl.Id) []impl.Id {
	for _, n := range list {
		if n.Id == a {
			return n.Deps
		}
	}
	return nil
}

// onlyNodes reports whether all of some ids are ids of nodes.
func onlyNodes(list []impl.Node, ids []impl.Id) bool {
	return !slices.ContainsFunc(ids, func(a impl.Id) bool { return !slices.Contains(idsOfNodes(list), a) })
}

// checkReachWords holds NodesReach of each valid node against the promises 32 to 34.
func checkReachWords(t *testing.T, list []impl.Node) {
	t.Helper()
	for _, n := range list {
		reach := impl.NodesReach(list, n.Id)
		if !impl.DepsValid(reach) {
			t.Fatalf("NodesReach(%v, %v) is %v", list, n.Id, reach)
		}
		led := slices.Clone(n.Deps)
		for _, a := range reach {
			led = append(led, depsOf(list, a)...)
			fromOthers := slices.Clone(n.Deps)
			for _, b := range reach {
				if b != a {
					fromOthers = append(fromOthers, depsOf(list, b)...)
				}
			}
			if !slices.Contains(idsOfNodes(list), a) || !slices.Contains(fromOthers, a) {
				t.Fatalf("NodesReach(%v, %v) is %v, with %v", list, n.Id, reach, a)
			}
			if further := impl.NodesReach(list, a); !impl.DepsWithin(further, reach) {
				t.Fatalf("NodesReach(%v, %v) is %v, and of %v it is %v", list, n.Id, reach, a, further)
			}
		}
		for _, a := range led {
			if slices.Contains(idsOfNodes(list), a) && !slices.Contains(reach, a) {
				t.Fatalf("NodesReach(%v, %v) is %v, without %v", list, n.Id, reach, a)
			}
		}
	}
}

// checkGroupWords holds NodesGroup of each valid node against the promises 35 and 36.
func checkGroupWords(t *testing.T, list []impl.Node) {
	t.Helper()
	for _, n := range list {
		group := impl.NodesGroup(list, n.Id)
		if !impl.DepsValid(group) || !slices.Contains(group, n.Id) {
			t.Fatalf("NodesGroup(%v, %v) is %v", list, n.Id, group)
		}
		for _, a := range idsOfNodes(list) {
			forth := slices.Contains(impl.NodesReach(list, n.Id), a)
			back := slices.Contains(impl.NodesReach(list, a), n.Id)
			if a != n.Id && slices.Contains(group, a) != (forth && back) {
				t.Fatalf("NodesGroup(%v, %v) is %v, which is wrong of %v", list, n.Id, group, a)
			}
		}
		for _, a := range group {
			if same := impl.NodesGroup(list, a); !slices.Equal(same, group) {
				t.Fatalf("NodesGroup(%v, %v) is %v, but of %v it is %v", list, n.Id, group, a, same)
			}
		}
	}
}

// checkReadyWords holds NodesReady of each valid node against the promises 37 and 38.
func checkReadyWords(t *testing.T, list []impl.Node) {
	t.Helper()
	for _, n := range list {
		ready := impl.NodesReady(list, n.Id)
		want := onlyNodes(list, n.Deps)
		for _, a := range impl.NodesReach(list, n.Id) {
			want = want && onlyNodes(list, depsOf(list, a))
			if ready && !impl.NodesReady(list, a) {
				t.Fatalf("NodesReady(%v, %v) holds, but not of %v", list, n.Id, a)
			}
		}
		if ready != want {
			t.Fatalf("NodesReady(%v, %v) is %v", list, n.Id, ready)
		}
	}
}

// checkOrderWords holds NodesOrder of valid nodes against the promises 39 to 41.
func checkOrderWords(t *testing.T, list []impl.Node) {
	t.Helper()
	order := impl.NodesOrder(list)
	for _, n := range list {
		times := 0
		for _, a := range order {
			if a == n.Id {
				times++
			}
		}
		if ready := impl.NodesReady(list, n.Id); times > 1 || ready != (times == 1) {
			t.Fatalf("NodesOrder(%v) is %v, but NodesReady of %v is %v", list, order, n.Id, ready)
		}
	}
	if !onlyNodes(list, order) {
		t.Fatalf("NodesOrder(%v) is %v", list, order)
	}
	for i := 0; i < len(order); {
		group := impl.NodesGroup(list, order[i])
		for k, a := range order[i:min(i+len(group), len(order))] {
			if !slices.Contains(group, a) || k > 0 && seqOf(list, order[i+k-1])*1000+places[order[i+k-1]] >= seqOf(list, a)*1000+places[a] {
				t.Fatalf("NodesOrder(%v) is %v, where the group %v does not run together, by rank and id", list, order, group)
			}
			for _, b := range depsOf(list, a) {
				if !slices.Contains(group, b) && !slices.Contains(order[:i], b) {
					t.Fatalf("NodesOrder(%v) is %v, where %v runs ahead of %v", list, order, a, b)
				}
			}
		}
		i += len(group)
	}
}

// seqOf returns the rank of the node with an id.
func seqOf(list []impl.Node, a impl.Id) int {
	for _, n := range list {
		if n.Id == a {
			return n.Seq
		}
	}
	return 0
}

// checkWithoutWords holds valid nodes against the promises 42 to 44.
func checkWithoutWords(t *testing.T, list []impl.Node) {
	t.Helper()
	order := impl.NodesOrder(list)
	bare := deepNodes(list)
	for i, n := range list {
		bare[i].Deps = nil
		without := slices.Delete(deepNodes(list), i, i+1)
		if !impl.NodesValid(without) {
			t.Fatalf("%v is not valid", without)
		}
		fewer := impl.NodesOrder(without)
		same := slices.DeleteFunc(slices.Clone(order), func(a impl.Id) bool { return !slices.Contains(fewer, a) })
		if !slices.Equal(fewer, same) {
			t.Fatalf("NodesOrder(%v) is %v, and without %v it is %v", list, order, n.Id, fewer)
		}
		onItself := deepNodes(list)
		onItself[i].Deps = inOrder(append(onItself[i].Deps, n.Id))
		wantNoNodes(t, onItself)
		onItself[i].Deps = []impl.Id{n.Id}
		wantNoNodes(t, onItself)
	}
	if got, want := impl.NodesOrder(bare), oracleOf(list).bySoonest(idsOfNodes(list)); !slices.Equal(got, want) {
		t.Fatalf("NodesOrder(%v) is %v, not %v", bare, got, want)
	}
}

// checkGraphWords holds valid nodes against all promises of chapter 5.
func checkGraphWords(t *testing.T, list []impl.Node) {
	t.Helper()
	if !impl.NodesValid(list) {
		t.Fatalf("%v is not valid", list)
	}
	checkReachWords(t, list)
	checkGroupWords(t, list)
	checkReadyWords(t, list)
	checkOrderWords(t, list)
	checkWithoutWords(t, list)
}

// largest returns NodesMax nodes, each of which depends on all others, with ranks by their places.
func largest(rank func(i int) int) []impl.Node {
	all := "abcdefghijkl"
	var list []impl.Node
	for i := range len(all) {
		list = append(list, impl.Node{Id: letter(all[i]), Seq: rank(i), Deps: lettersOf(all[:i] + all[i+1:])})
	}
	return list
}

// someGraph returns so many nodes, each of which depends on each other one, and on each of some ids that are no nodes, as often as told of 100 times.
func someGraph(random *rand.Rand, many, often, missing, ranks int) []impl.Node {
	ids := someIds(random, many+3)
	var list []impl.Node
	for _, a := range inOrder(ids[:many]) {
		n := impl.Node{Id: a, Seq: 1 + random.Intn(ranks)}
		for i, b := range ids {
			if b != a && (i < many && random.Intn(100) < often || i >= many && random.Intn(100) < missing) {
				n.Deps = append(n.Deps, b)
			}
		}
		n.Deps = inOrder(n.Deps[:min(12, len(n.Deps))])
		list = append(list, n)
	}
	return list
}

// someGraphs lists nodes of all numbers, with few and many circles, all ready or only some, and with few and many ranks.
func someGraphs(seed int64, times int) [][]impl.Node {
	random := rand.New(rand.NewSource(seed))
	var lists [][]impl.Node
	for range times {
		for many := 1; many <= 12; many++ {
			often := []int{0, 5, 10, 15, 20, 35, 60, 100}[random.Intn(8)]
			missing := []int{0, 0, 2, 10}[random.Intn(4)]
			ranks := []int{1, 2, 5, 99}[random.Intn(4)]
			lists = append(lists, someGraph(random, many, often, missing, ranks))
		}
	}
	return lists
}

// listsOfNodes lists valid nodes: those of the tables below, and others.
func listsOfNodes() [][]impl.Node {
	lists := [][]impl.Node{nil, {}, make([]impl.Node, 0, 20), largest(func(i int) int { return 99 - i })}
	for _, test := range graphTests() {
		lists = append(lists, graph(test.nodes))
	}
	return append(lists, someGraphs(32, 4)...)
}

func TestNodeConstants(t *testing.T) {
	if impl.NodesMax != 12 || impl.SeqMax != 99 {
		t.Errorf("the constants are %d and %d", impl.NodesMax, impl.SeqMax)
	}
}

// The helpers themselves must see what the tests rely on.
func TestGraphHelpers(t *testing.T) {
	for c := byte('a'); c < 'z'; c++ {
		if !impl.IdBefore(letter(c), letter(c+1)) || asLetters([]impl.Id{letter(c), {}, id(0, 1), letter(c + 1)}) != string(c)+"??"+string(c+1) {
			t.Errorf("the letter %c stands for %v", c, letter(c))
		}
	}
	want := []impl.Node{{Id: letter('a'), Seq: 12, Deps: []impl.Id{letter('b'), letter('z')}}, {Id: letter('b'), Seq: 3, Deps: nil}}
	if got := graph("a12bz b3"); !sameNodes(got, want) {
		t.Errorf("graph is %v", got)
	}
}

// graphTest is a table row: nodes, what some of them reach, the groups of more than one, those that are ready, and the order.
type graphTest struct {
	name, nodes, reach, groups, ready, order string
}

func graphTests() []graphTest {
	return slices.Concat(reachTests(), groupTests(), readyTests(), orderTests())
}

func reachTests() []graphTest {
	return []graphTest{
		{"one node that depends on nothing", "c5", "c:", "", "c", "c"},
		{"one node that depends on no node", "c5d", "c:", "", "", ""},
		{"two nodes", "c5 d5", "c: d:", "", "cd", "cd"},
		{"one step", "c5d d4", "c:d d:", "", "cd", "dc"},
		{"one step back", "c5 d6c", "c: d:c", "", "cd", "cd"},
		{"two steps", "a3b b2c c1", "a:bc b:c c:", "", "abc", "cba"},
		{"as many steps as nodes", "a9b b9c c9d d9e e9f f9g g9h h9i i9j j9k k9l l9", "a:bcdefghijkl f:ghijkl k:l l:", "", "abcdefghijkl", "lkjihgfedcba"},
		{"as many steps as nodes, in order", "a1 b1a c1b d1c e1d f1e g1f h1g i1h j1i k1j l1k", "a: b:a f:abcde l:abcdefghijk", "", "abcdefghijkl", "abcdefghijkl"},
		{"as many steps as nodes, to and fro", "a1l b1k c1j d1i e1h f1g g1 h1f i1e j1d k1c l1b", "a:bcdefghijkl l:bcdefghijk g: h:fg", "", "abcdefghijkl", "gfheidjckbla"},
		{"two ways to one node", "a4bc b3d c2d d1", "a:bcd b:d c:d d:", "", "abcd", "dcba"},
		{"two ways of different length", "a4bd b3c c2d d1", "a:bcd b:cd c:d d:", "", "abcd", "dcba"},
		{"many ways", "a1bcdef b1f c1f d1f e1f f1g g1", "a:bcdefg f:g g:", "", "abcdefg", "gfbcdea"},
		{"all that stand behind", "a1bcd b1cd c1d d1", "a:bcd b:cd c:d d:", "", "abcd", "dcba"},
		{"around a circle of two", "a1b b2a", "a:ab b:ab", "ab", "ab", "ab"},
		{"around a circle of three", "a3b b2c c1a", "a:abc b:abc c:abc", "abc", "abc", "cba"},
		{"around the largest circle", "a1b b1c c1d d1e e1f f1g g1h h1i i1j j1k k1l l1a", "a:abcdefghijkl l:abcdefghijkl", "abcdefghijkl", "abcdefghijkl", "abcdefghijkl"},
		{"a way into a circle", "a1b b1c c1b", "a:bc b:bc c:bc", "bc", "abc", "bca"},
		{"a way out of a circle", "a1 b1ac c1b", "a: b:abc c:abc", "bc", "abc", "abc"},
		{"what is no node leads nowhere", "a1z b1a", "a: b:a", "", "", ""},
		{"what is no node between nodes", "a1m b1 n1b", "a: b: n:b", "", "bn", "bn"},
		{"a node and what is no node", "a1bz b1", "a:b b:", "", "b", "b"},
		{"12 ids, of which one is a node", "a1bmnopqrstuvw b1", "a:b b:", "", "b", "b"},
		{"12 ids, of which none is a node", "a1mnopqrstuvwx", "a:", "", "", ""},
		{"12 ids, of which 11 are nodes", "a1bcdefghijklz b1 c1 d1 e1 f1 g1 h1 i1 j1 k1 l1", "a:bcdefghijkl l:", "", "bcdefghijkl", "bcdefghijkl"},
	}
}

func groupTests() []graphTest {
	return []graphTest{
		{"two circles with a node in common", "a5b b4ac c3b", "a:abc b:abc c:abc", "abc", "abc", "cba"},
		{"two circles of three with a node in common", "a1b b1c c1ad d1e e1c", "a:abcde e:abcde", "abcde", "abcde", "abcde"},
		{"three circles in a row, each with a node in common", "a1b b1ac c1bd d1c", "a:abcd d:abcd", "abcd", "abcd", "abcd"},
		{"a circle with a shorter way", "a1b b1ac c1a", "a:abc b:abc c:abc", "abc", "abc", "abc"},
		{"a circle that the first one met is not in", "a1d b1c c1d d1b", "a:bcd b:bcd c:bcd d:bcd", "bcd", "abcd", "bcda"},
		{"two circles side by side", "a1c b1d c1a d1b", "a:ac b:bd c:ac d:bd", "ac bd", "abcd", "acbd"},
		{"a circle that waits for a circle", "a1b b1ac c1d d1c", "a:abcd b:abcd c:cd d:cd", "ab cd", "abcd", "cdab"},
		{"a circle that waits for the one before", "a1b b1a c1d d1bc", "a:ab b:ab c:abcd d:abcd", "ab cd", "abcd", "abcd"},
		{"three circles in a row", "a1b b1ac c1d d1ce e1f f1e", "a:abcdef c:cdef e:ef", "ab cd ef", "abcdef", "efcdab"},
		{"six circles in a row", "a1b b1ac c1d d1ce e1f f1eg g1h h1gi i1j j1ik k1l l1k", "a:abcdefghijkl l:kl", "ab cd ef gh ij kl", "abcdefghijkl", "klijghefcdab"},
		{"two circles that wait for one", "a1be b1a c1d d1ce e1f f1e", "a:abef c:cdef e:ef", "ab cd ef", "abcdef", "efabcd"},
		{"one circle that waits for two", "a1b b1ace c1d d1c e1f f1e", "a:abcdef c:cd e:ef", "ab cd ef", "abcdef", "cdefab"},
		{"two circles between two", "a1bce b1a c1dg d1c e1fg f1e g1h h1g", "a:abcdefgh c:cdgh e:efgh g:gh", "ab cd ef gh", "abcdefgh", "ghcdefab"},
		{"a circle from which one looks back into what is known", "a1b b1a c1ad d1bc", "a:ab b:ab c:abcd d:abcd", "ab cd", "abcd", "abcd"},
		{"a node that a circle depends on", "a1bc b1a c9", "a:abc b:abc c:", "ab", "abc", "cab"},
		{"a node that depends on a circle", "a1b b2a c1b", "a:ab b:ab c:ab", "ab", "abc", "abc"},
		{"nodes on both sides of a circle", "a1b b5c c5be d1a e9", "a:bce b:bce c:bce d:abce e:", "bc", "abcde", "ebcad"},
		{"a node between two circles", "a1b b1ac c1d d1e e1d", "a:abcde c:de e:de", "ab de", "abcde", "decab"},
		{"a node beside circles", "a1b b1a c5 d1e e1d", "a:ab c: d:de", "ab de", "abcde", "abdec"},
		{"all but one in a circle", "a1b b1c c1d d1a e1abcd", "a:abcd e:abcd", "abcd", "abcde", "abcde"},
		{"no circle though each two are joined", "a1bcd b1cd c1d d1", "a:bcd d:", "", "abcd", "dcba"},
		{"a circle through what is no node is none", "a1m b1a", "a: b:a", "", "", ""},
	}
}

func readyTests() []graphTest {
	return []graphTest{
		{"a missing id at the node itself", "a1z b1", "a: b:", "", "b", "b"},
		{"a missing id ahead of nodes", "b1ac c1", "b:c c:", "", "c", "c"},
		{"a missing id between nodes", "b1 c1bde e1", "c:be", "", "be", "be"},
		{"a missing id one step away", "a1b b1z c1", "a:b b: c:", "", "c", "c"},
		{"a missing id two steps away", "a1b b1c c1z", "a:bc", "", "", ""},
		{"a missing id many steps away", "a1b b1c c1d d1e e1f f1g g1h h1i i1j j1k k1l l1z", "a:bcdefghijkl l:", "", "", ""},
		{"a missing id in the middle of a row", "a1b b1c c1dz d1e e1f f1", "a:bcdef d:ef", "", "def", "fed"},
		{"a missing id on one of two ways", "a1bc b1d c1dz d1", "a:bcd b:d c:d", "", "bd", "db"},
		{"a missing id in a circle, at the first one", "a1bz b1a", "a:ab b:ab", "ab", "", ""},
		{"a missing id in a circle, at the last one", "a1b b1az", "a:ab b:ab", "ab", "", ""},
		{"a missing id in a circle, in the middle", "a1b b1cz c1a d1", "a:abc b:abc d:", "abc", "d", "d"},
		{"a missing id behind a circle", "a1b b1ac c1z", "a:abc c:", "ab", "", ""},
		{"a missing id behind a circle behind a circle", "a1b b1ac c1d d1ce e1z f1", "a:abcde e: f:", "ab cd", "f", "f"},
		{"a circle ahead of one with a missing id", "a1b b1a c1d d1bcz", "a:ab c:abcd", "ab cd", "ab", "ab"},
		{"a circle beside one with a missing id", "a1c b1d c1az d1b", "a:ac b:bd", "ac bd", "bd", "bd"},
		{"a node that depends on a circle with a missing id", "a1b b1az c1b d1", "c:ab d:", "ab", "d", "d"},
		{"some of each", "a1z b1 c1ab d1b e1cd f1d", "c:ab e:abcd f:bd", "", "bdf", "bdf"},
		{"none ready", "a1z b1ay c1abx", "a: c:ab", "", "", ""},
	}
}

func orderTests() []graphTest {
	return []graphTest{
		{"ranks that agree", "a1 b2a c3b d4c", "d:abc", "", "abcd", "abcd"},
		{"ranks that agree, against the ids", "a4b b3c c2d d1", "a:bcd", "", "abcd", "dcba"},
		{"ranks against what is depended on", "a4 b3a c2b d1c", "d:abc", "", "abcd", "abcd"},
		{"ranks and ids against what is depended on", "a1b b2c c3d d4", "a:bcd", "", "abcd", "dcba"},
		{"the same ranks", "a7 b7 c7 d7", "a:", "", "abcd", "abcd"},
		{"ranks against the ids", "a9 b8 c7 d6", "a:", "", "abcd", "dcba"},
		{"ranks of one and two digits", "a10 b9 c99 d1", "a:", "", "abcd", "dbac"},
		{"the soonest one waits", "a9 b1a c5", "b:a", "", "abc", "cab"},
		{"the soonest one waits for two", "a1bc b8 c9 d5 e10", "a:bc", "", "abcde", "dbcae"},
		{"a node that is free only then runs ahead of those that were before", "a2 b3 c5 d1b", "d:b", "", "abcd", "abdc"},
		{"one runs as soon as it can", "a5 b1a c6 d4", "b:a", "", "abcd", "dabc"},
		{"side by side, in turn by rank", "a1 b3a c2 d4c", "b:a d:c", "", "abcd", "acbd"},
		{"a circle by rank", "a3b b2c c1a", "a:abc", "abc", "abc", "cba"},
		{"a circle by id", "a2b b2c c2a", "a:abc", "abc", "abc", "abc"},
		{"a circle by rank, then id", "a2b b1c c2d d1a", "a:abcd", "abcd", "abcd", "bdac"},
		{"a circle that depends on one with greater ranks", "a1b b2ac c8d d9c", "a:abcd", "ab cd", "abcd", "cdab"},
		{"a circle that depends on one with less ranks", "a8b b9ac c1d d2c", "a:abcd", "ab cd", "abcd", "cdab"},
		{"a circle that depends on one with ranks around its own", "a4b b5ac c1d d9c", "a:abcd", "ab cd", "abcd", "cdab"},
		{"a circle that depends on one with ranks between its own", "a1b b9ac c4d d5c", "a:abcd", "ab cd", "abcd", "cdab"},
		{"a circle around another one that could run between", "a1d b2c c3b d4a", "a:ad b:bc", "ad bc", "abcd", "adbc"},
		{"a circle in turn with another one", "a1c b2d c3a d4b", "a:ac b:bd", "ac bd", "abcd", "acbd"},
		{"a circle around a node", "a1c b2 c3a", "a:ac b:", "ac", "abc", "acb"},
		{"a node that is sooner than a circle", "a2c b1 c3a", "a:ac b:", "ac", "abc", "bac"},
		{"a circle of the same rank as a node between", "a5c b5 c5a", "a:ac b:", "ac", "abc", "acb"},
		{"the soonest one of a circle counts, not its first", "a9c b5 c1a", "a:ac b:", "ac", "abc", "cab"},
		{"the soonest one of a circle counts, not its last", "a1c b5 c9a", "a:ac b:", "ac", "abc", "acb"},
		{"the soonest one of a circle waits with all of it", "a1b b2ad c5 d9", "a:abd", "ab", "abcd", "cdab"},
		{"what waits for a circle with a greater rank", "a9b b8a c1a d5", "c:ab", "ab", "abcd", "dbac"},
		{"what waits for one of a circle does not run inside it", "a1b b9a c2a", "c:ab", "ab", "abc", "abc"},
		{"circles on both sides", "a5b b6ac c9d d9c e1f f9e", "a:abcd e:ef", "ab cd ef", "abcdef", "efcdab"},
		{"what is not ready does not delay", "a1z b9 c1a d8", "c:a", "", "bd", "db"},
		{"what is not ready does not run with a group", "a1b b1a c1az d2", "c:ab", "ab", "abd", "abd"},
		{"the limits of ranks", "a99 b1", "a:", "", "ab", "ba"},
	}
}

func TestGraphTables(t *testing.T) {
	for _, test := range graphTests() {
		list := graph(test.nodes)
		if !impl.NodesValid(list) {
			t.Fatalf("%s: %v is not valid", test.name, list)
		}
		for _, word := range strings.Fields(test.reach) {
			if got := asLetters(impl.NodesReach(list, letter(word[0]))); got != word[2:] {
				t.Errorf("%s: NodesReach of %c is %q", test.name, word[0], got)
			}
		}
		for _, a := range idsOfNodes(list) {
			want := asLetters([]impl.Id{a})
			for _, group := range strings.Fields(test.groups) {
				if strings.Contains(group, asLetters([]impl.Id{a})) {
					want = group
				}
			}
			if got := asLetters(impl.NodesGroup(list, a)); got != want {
				t.Errorf("%s: NodesGroup of %s is %q, not %q", test.name, asLetters([]impl.Id{a}), got, want)
			}
			if got, want := impl.NodesReady(list, a), strings.Contains(test.ready, asLetters([]impl.Id{a})); got != want {
				t.Errorf("%s: NodesReady of %s is %v", test.name, asLetters([]impl.Id{a}), got)
			}
		}
		if got := asLetters(impl.NodesOrder(list)); got != test.order {
			t.Errorf("%s: NodesOrder is %q, not %q", test.name, got, test.order)
		}
		checkGraph(t, list)
		checkGraphWords(t, list)
	}
}

// allGraphs calls a function with all nodes of some letters, each of which depends on any of the others and of some ids that are no nodes, with the ranks of a row in turn.
func allGraphs(letters, missing string, ranks [][]int, call func([]impl.Node)) {
	choices := make([][][]impl.Id, len(letters))
	total := 1
	for i := range len(letters) {
		choices[i] = partsOf(inOrder(lettersOf(letters[:i] + letters[i+1:] + missing)))
		total *= len(choices[i])
	}
	list := make([]impl.Node, len(letters))
	for which := range total {
		left := which
		for i := range list {
			list[i] = impl.Node{Id: letter(letters[i]), Seq: 1, Deps: choices[i][left%len(choices[i])]}
			left /= len(choices[i])
		}
		for _, row := range ranks {
			for i, rank := range row {
				list[i].Seq = rank
			}
			call(list)
		}
	}
}

// rowsOf lists all rows of so many numbers from 1 up to a greatest one.
func rowsOf(many, greatest int) [][]int {
	rows := [][]int{{}}
	for range many {
		var longer [][]int
		for _, row := range rows {
			for n := 1; n <= greatest; n++ {
				longer = append(longer, append(slices.Clip(row), n))
			}
		}
		rows = longer
	}
	return rows
}

// All nodes of three letters, with an id that is no node, and with all ranks of three.
func TestGraphsOfThree(t *testing.T) {
	for many := range 3 {
		allGraphs("acd"[:many], "x", rowsOf(many, 3), func(list []impl.Node) {
			checkGraph(t, list)
			checkGraphWords(t, list)
		})
	}
	allGraphs("acd", "x", rowsOf(3, 3), func(list []impl.Node) { checkGraph(t, list) })
	allGraphs("acd", "b", [][]int{{1, 1, 1}, {3, 2, 1}, {2, 3, 1}}, func(list []impl.Node) { checkGraphWords(t, list) })
}

// All nodes of four letters, with ranks against each other in several ways.
func TestGraphsOfFour(t *testing.T) {
	ranks := [][]int{{1, 1, 1, 1}, {4, 3, 2, 1}, {2, 1, 4, 3}, {1, 3, 2, 3}}
	allGraphs("bcef", "", ranks, func(list []impl.Node) { checkGraph(t, list) })
	allGraphs("bcef", "", ranks[3:], func(list []impl.Node) { checkOrderWords(t, list) })
}

// Nodes of any number, with few and many circles.
func TestGraphsAny(t *testing.T) {
	for _, list := range someGraphs(33, 100) {
		checkGraph(t, list)
	}
	for _, list := range someGraphs(34, 25) {
		checkGraphWords(t, list)
	}
}

// No nodes are valid, and have nothing.
func TestNodesNone(t *testing.T) {
	for _, list := range [][]impl.Node{nil, {}, make([]impl.Node, 0, 12), graph("a1 b1")[:0]} {
		if !impl.NodesValid(list) || len(impl.NodesOrder(list)) != 0 {
			t.Errorf("NodesValid of none is %v, and NodesOrder %v", impl.NodesValid(list), impl.NodesOrder(list))
		}
		for _, a := range append(edgeIds(), validIds()...) {
			if len(impl.NodesReach(list, a)) != 0 || len(impl.NodesGroup(list, a)) != 0 || impl.NodesReady(list, a) {
				t.Fatalf("of no nodes, %v has something", a)
			}
		}
	}
}

// Each valid id is that of one node, also as what one depends on.
func TestNodesOne(t *testing.T) {
	all := validIds()
	for i, a := range all {
		for _, deps := range [][]impl.Id{nil, {}} {
			list := []impl.Node{{Id: a, Seq: 1 + i%99, Deps: deps}}
			if !impl.NodesReady(list, a) || !slices.Equal(impl.NodesOrder(list), []impl.Id{a}) || !slices.Equal(impl.NodesGroup(list, a), []impl.Id{a}) {
				t.Fatalf("%v is not ready alone", list)
			}
			checkGraph(t, list)
		}
		b := all[(i+101)%250]
		checkGraph(t, []impl.Node{{Id: a, Seq: 1, Deps: []impl.Id{b}}})
		two := []impl.Node{{Id: all[min(i, (i+101)%250)], Seq: 2}, {Id: all[max(i, (i+101)%250)], Seq: 1}}
		two[0].Deps, two[1].Deps = []impl.Id{two[1].Id}, []impl.Id{two[0].Id}
		if !slices.Equal(impl.NodesOrder(two), []impl.Id{two[1].Id, two[0].Id}) {
			t.Fatalf("NodesOrder(%v) is %v", two, impl.NodesOrder(two))
		}
		checkGraph(t, two)
	}
}

// NodesMax nodes are valid, and one more are not.
func TestNodesLimit(t *testing.T) {
	all := validIds()
	nodes := func(ids []impl.Id) []impl.Node {
		var list []impl.Node
		for _, a := range ids {
			list = append(list, impl.Node{Id: a, Seq: 1})
		}
		return list
	}
	for from := 0; from+13 <= len(all); from += 7 {
		for many := range 13 {
			list := nodes(all[from : from+many])
			if got := impl.NodesOrder(list); !impl.NodesValid(list) || !slices.Equal(got, all[from:from+many]) {
				t.Fatalf("NodesOrder(%v) is %v", list, got)
			}
		}
		wantNoNodes(t, nodes(all[from:from+13]))
	}
	wantNoNodes(t, nodes(lettersOf("abcdefghijklm")))
	wantNoNodes(t, graph("a1b b1c c1d d1e e1f f1g g1h h1i i1j j1k k1l l1m m1a"))
	wantNoNodes(t, nodes(all[:24]))
	wantNoNodes(t, nodes(all))
	wantNoNodes(t, slices.Repeat(graph("a1b b1"), 6))
	wantNoNodes(t, make([]impl.Node, 13))
	if huge := slices.Repeat(nodes(all), 2000); impl.NodesValid(huge) || len(impl.NodesOrder(huge)) != 0 {
		t.Errorf("so many nodes are valid")
	}
}

// spoiled lists what a node becomes in each way of being invalid alone.
func spoiled(n impl.Node) map[string]impl.Node {
	with := func(deps ...impl.Id) impl.Node { return impl.Node{Id: n.Id, Seq: n.Seq, Deps: deps} }
	own := n.Id
	list := map[string]impl.Node{
		"no node":                           {},
		"its own id":                        with(own),
		"its own id among others":           with(inOrder(append(lettersOf("abcdefg"), own))...),
		"its own id at the end":             with(inOrder([]impl.Id{id(0, 1), id(0, 2), own})...),
		"its own id ahead":                  with(inOrder([]impl.Id{own, id(4, 49), id(4, 50)})...),
		"ids that are not sorted":           with(id(4, 50), id(0, 1)),
		"ids that are not sorted in middle": with(id(0, 1), id(3, 3), id(3, 2), id(4, 50)),
		"an id twice side by side":          with(id(0, 1), id(4, 50), id(4, 50)),
		"an id twice apart":                 with(id(0, 1), id(4, 50), id(0, 1)),
		"an id 0.0":                         with(impl.Id{}),
		"an invalid id ahead":               with(id(-1, 50), id(0, 1)),
		"an invalid id in the middle":       with(id(0, 1), id(0, 51), id(4, 50)),
		"an invalid id at the end":          with(id(0, 1), id(4, 50), id(5, 1)),
		"13 ids":                            with(slices.DeleteFunc(slices.Clone(validIds()[:14]), func(a impl.Id) bool { return a == own })[:13]...),
		"13 ids at the end":                 with(slices.DeleteFunc(slices.Clone(validIds()[236:]), func(a impl.Id) bool { return a == own })[:13]...),
		"all ids":                           with(validIds()...),
	}
	for _, rank := range []int{0, -1, -99, 100, 101, 1000, math.MinInt, math.MaxInt, 1 << 32, 1<<32 + 1, 1<<8 + 1} {
		list["the rank "+strconv.Itoa(rank)] = impl.Node{Id: n.Id, Seq: rank, Deps: n.Deps}
	}
	return list
}

// A node that is invalid spoils all, at the beginning, in the middle and at the end.
func TestNodesInvalidNode(t *testing.T) {
	for _, text := range []string{"d5", "d5z", "d5 e4", "d5e e4d", "a1 d5ae e4d x2 y3x", "a1b b1c c1d d1e e1f f1g g1h h1i i1j j1k k1l l1a", "m1nop"} {
		list := graph(text)
		checkGraph(t, list)
		checkGraphWords(t, list)
		for i, n := range list {
			for name, bad := range spoiled(n) {
				with := deepNodes(list)
				with[i] = bad
				if wantNodes(with) {
					t.Fatalf("%s: %v should be invalid", name, with)
				}
				wantNoNodes(t, with)
				checkGraph(t, with)
			}
			for _, a := range invalidIds() {
				with := deepNodes(list)
				with[i].Id = a
				wantNoNodes(t, with)
				if i+1 < len(list) && len(list[i].Deps) < 12 {
					with = deepNodes(list)
					with[i].Deps = append([]impl.Id{a}, with[i].Deps...)
					wantNoNodes(t, with)
					with[i].Deps = append(slices.Clone(list[i].Deps), a)
					wantNoNodes(t, with)
				}
			}
		}
	}
}

// An invalid id that would be in its place, at the nodes and at what they depend on.
func TestNodesInvalidIdInOrder(t *testing.T) {
	for _, ids := range [][]impl.Id{
		{id(-1, 1)}, {id(-1, 50), id(0, 1)}, {id(0, 0), id(0, 1)}, {id(0, 50), id(0, 51)}, {id(0, 50), id(0, 51), id(1, 1)},
		{id(0, 50), id(1, 0), id(1, 1)}, {id(4, 50), id(4, 51)}, {id(4, 50), id(5, 1)}, {id(0, 1), id(0, 64)}, {{}},
	} {
		var nodes []impl.Node
		for _, a := range ids {
			nodes = append(nodes, impl.Node{Id: a, Seq: 1})
		}
		wantNoNodes(t, nodes)
		wantNoNodes(t, []impl.Node{{Id: id(2, 2), Seq: 1, Deps: ids}})
		wantNoNodes(t, []impl.Node{{Id: id(2, 2), Seq: 1}, {Id: id(2, 3), Seq: 1, Deps: ids}, {Id: id(2, 4), Seq: 1}})
	}
}

// The ranks at the limits and beyond, and exactly IdsMax ids and one more.
func TestNodesLimitsOfOne(t *testing.T) {
	own := id(2, 7)
	for rank := -200; rank <= 300; rank++ {
		list := []impl.Node{{Id: own, Seq: rank}}
		if want := rank >= 1 && rank <= 99; impl.NodesValid(list) != want || impl.NodesReady(list, own) != want || len(impl.NodesOrder(list)) == 1 != want {
			t.Errorf("NodesValid of the rank %d is %v", rank, !want)
		}
	}
	others := slices.DeleteFunc(validIds(), func(a impl.Id) bool { return a == own })
	for from := 0; from+13 <= len(others); from++ {
		twelve := []impl.Node{{Id: own, Seq: 1, Deps: others[from : from+12]}}
		if !impl.NodesValid(twelve) || impl.NodesReady(twelve, own) || len(impl.NodesOrder(twelve)) != 0 || len(impl.NodesReach(twelve, own)) != 0 {
			t.Fatalf("%v is not valid, or ready", twelve)
		}
		wantNoNodes(t, []impl.Node{{Id: own, Seq: 1, Deps: others[from : from+13]}})
	}
}

// Nodes that are not in order, and ids of nodes twice.
func TestNodesOutOfOrder(t *testing.T) {
	for _, list := range listsOfNodes() {
		for i := range list {
			for j := range i {
				swapped := deepNodes(list)
				swapped[i], swapped[j] = swapped[j], swapped[i]
				wantNoNodes(t, swapped)
				twice := deepNodes(list)
				twice[i] = impl.Node{Id: list[j].Id, Seq: 3}
				wantNoNodes(t, twice)
				twice = deepNodes(list)
				twice[j] = impl.Node{Id: list[i].Id, Seq: 3}
				wantNoNodes(t, twice)
			}
			for place := 0; place <= len(list); place++ {
				wantNoNodes(t, slices.Insert(deepNodes(list), place, list[i]))
				wantNoNodes(t, slices.Insert(deepNodes(list), place, impl.Node{Id: list[i].Id, Seq: 99}))
			}
		}
		if len(list) > 1 {
			backwards := deepNodes(list)
			slices.Reverse(backwards)
			wantNoNodes(t, backwards)
		}
	}
	for _, text := range []string{"b1 a1", "a1 a1", "a1 b1 a1", "a1b a1b b1", "b1 c1 c1", "a1 c1 b1 d1", "b1c c1b a1"} {
		wantNoNodes(t, graph(text))
	}
}

// An id of which there is no node, invalid or not, has nothing, also if nodes depend on it.
func TestNodesNoSuchNode(t *testing.T) {
	for _, list := range listsOfNodes() {
		for _, a := range slices.Concat(validIds(), edgeIds()) {
			if slices.Contains(idsOfNodes(list), a) {
				continue
			}
			if len(impl.NodesReach(list, a)) != 0 || len(impl.NodesGroup(list, a)) != 0 || impl.NodesReady(list, a) {
				t.Fatalf("of %v, %v has something", list, a)
			}
		}
	}
}

// Nodes each of which depends on all others are one group, and run by rank and id.
func TestNodesLargest(t *testing.T) {
	for name, rank := range map[string]func(int) int{
		"the same ranks": func(int) int { return 50 }, "ranks as ids": func(i int) int { return i + 1 }, "ranks against ids": func(i int) int { return 99 - i },
		"two ranks": func(i int) int { return 1 + i%2*98 },
	} {
		list := largest(rank)
		all := idsOfNodes(list)
		for _, a := range all {
			if !slices.Equal(impl.NodesReach(list, a), all) || !slices.Equal(impl.NodesGroup(list, a), all) || !impl.NodesReady(list, a) {
				t.Fatalf("%s: not all nodes reach all", name)
			}
		}
		if got := impl.NodesOrder(list); !slices.Equal(got, oracleOf(list).bySoonest(all)) {
			t.Errorf("%s: NodesOrder is %v", name, got)
		}
		checkGraph(t, list)
		checkGraphWords(t, list)
		for i := range list {
			one := deepNodes(list)
			one[i].Deps = inOrder(append(one[i].Deps, letter('z')))
			if !impl.NodesValid(one) || len(impl.NodesOrder(one)) != 0 || !slices.Equal(impl.NodesGroup(one, all[11-i]), all) {
				t.Errorf("%s: with one missing, NodesOrder is %v", name, impl.NodesOrder(one))
			}
			checkGraph(t, one)
		}
	}
}

// Every call ends, in far less time than is given here.
func TestNodesEnd(t *testing.T) {
	done := make(chan bool)
	go func() {
		for _, list := range append(listsOfNodes(), largest(func(int) int { return 1 }), graph("a1a"), graph("b1a a1b"), graph("a1b b1a a1b")) {
			impl.NodesOrder(list)
			for _, a := range askedIds(list) {
				impl.NodesReach(list, a)
				impl.NodesGroup(list, a)
				impl.NodesReady(list, a)
			}
		}
		close(done)
	}()
	select {
	case <-done:
	case <-time.After(time.Minute):
		t.Fatal("a call does not end")
	}
}

// roomyNodes returns nodes in a longer memory, each of which depends on ids in a longer memory, and all of that memory.
func roomyNodes(list []impl.Node) ([]impl.Node, []impl.Node, [][]impl.Id) {
	whole := append(make([]impl.Node, 0, len(list)+20), list...)
	var rows [][]impl.Id
	for i, n := range list {
		given, row := roomy(n.Deps)
		whole[i].Deps = given
		rows = append(rows, row)
	}
	whole = append(whole, impl.Node{Id: id(3, 33), Seq: 7}, impl.Node{Id: id(-1, 99), Seq: -1})
	return whole[:len(list)], whole, rows
}

// resultsOf lists the results of all functions for some nodes, in turn.
func resultsOf(list []impl.Node, asked []impl.Id) [][]impl.Id {
	results := [][]impl.Id{impl.NodesOrder(list)}
	for _, a := range asked {
		results = append(results, impl.NodesReach(list, a), impl.NodesGroup(list, a))
	}
	return results
}

func deepRows(rows [][]impl.Id) [][]impl.Id {
	var copied [][]impl.Id
	for _, row := range rows {
		copied = append(copied, slices.Clone(row))
	}
	return copied
}

func sameRows(a, b [][]impl.Id) bool {
	return slices.EqualFunc(a, b, func(x, y []impl.Id) bool { return slices.Equal(x, y) })
}

// checkGraphMemory checks that no function changes its arguments, or gives out their memory or that of another result.
func checkGraphMemory(t *testing.T, list []impl.Node) {
	t.Helper()
	given, whole, rows := roomyNodes(list)
	wholeBefore, rowsBefore := deepNodes(whole), deepRows(rows)
	unchanged := func() bool { return sameNodes(whole, wholeBefore) && sameRows(rows, rowsBefore) }
	asked := append(idsOfNodes(list), letter('z'))
	first, second := resultsOf(given, asked), resultsOf(given, asked)
	want := deepRows(second)
	for _, a := range asked {
		impl.NodesReady(given, a)
	}
	impl.NodesValid(given)
	if !unchanged() || sharing(whole, first, second) || !sameRows(first, second) {
		t.Fatalf("a function of %v changes or shares what it is given", list)
	}
	for _, result := range first {
		spoilIds(result)
		if !unchanged() || !sameRows(second, want) {
			t.Fatalf("behind a function of %v, its result changes an argument or another result", list)
		}
	}
	for _, row := range rows {
		spoilIds(row)
	}
	for i := range whole {
		whole[i] = impl.Node{Id: id(9, 9), Seq: 9}
	}
	if !sameRows(second, want) {
		t.Fatalf("behind a function of %v, its argument changes a result", list)
	}
}

// Also for nodes that are invalid, and where the nodes depend on the same memory.
func TestGraphMemory(t *testing.T) {
	lists := append(listsOfNodes(), graph("b1 a1"), graph("a1a b1"), graph("a0b b1"), graph("a1cb b1 c1"))
	for _, list := range lists {
		checkGraphMemory(t, list)
	}
	deps := lettersOf("ab")
	for _, list := range [][]impl.Node{
		{{Id: letter('a'), Seq: 2, Deps: deps[1:]}, {Id: letter('b'), Seq: 1, Deps: deps[:1]}, {Id: letter('c'), Seq: 1, Deps: deps}, {Id: letter('d'), Seq: 1, Deps: deps}},
		{{Id: letter('a'), Seq: 2, Deps: deps[:0]}, {Id: letter('b'), Seq: 1, Deps: deps[:1:1]}, {Id: letter('c'), Seq: 9, Deps: deps[:2]}},
	} {
		before := slices.Clone(deps)
		results := resultsOf(list, idsOfNodes(list))
		checkGraph(t, list)
		if sharing(append([][]impl.Id{deps}, results...)) {
			t.Fatalf("a function of %v shares what it is given", list)
		}
		for _, result := range results {
			spoilIds(result)
		}
		if !slices.Equal(deps, before) {
			t.Fatalf("a function of %v changes what it is given", list)
		}
	}
}

// nodesOfBytes makes nodes of bytes, valid or not: of each three a letter, a rank, and how many of the next letters it depends on.
func nodesOfBytes(bytes []byte) []impl.Node {
	var list []impl.Node
	for ; len(bytes) >= 3; bytes = bytes[3:] {
		n := impl.Node{Id: letter('a' + bytes[0]%14), Seq: int(bytes[1]) % 101}
		for i := range 8 {
			if bytes[2]>>i&1 == 1 {
				n.Deps = append(n.Deps, letter('a'+byte(i)+bytes[1]%6))
			}
		}
		list = append(list, n)
	}
	return list
}

func FuzzGraphs(f *testing.F) {
	f.Add([]byte{}, false)
	f.Add([]byte{0, 6, 2, 1, 6, 1, 2, 6, 3}, true)
	f.Add([]byte{0, 12, 2, 1, 18, 4, 2, 24, 8, 3, 30, 1}, true)
	f.Add([]byte{3, 1, 1, 2, 1, 1}, false)
	f.Fuzz(func(t *testing.T, bytes []byte, sort bool) {
		// Far more nodes than NodesMax would only take long.
		list := nodesOfBytes(bytes[:min(60, len(bytes))])
		if sort {
			slices.SortFunc(list, func(x, y impl.Node) int { return places[x.Id] - places[y.Id] })
			list = slices.CompactFunc(list, func(x, y impl.Node) bool { return x.Id == y.Id })
		}
		checkGraph(t, list)
		if wantNodes(list) {
			checkGraphWords(t, list)
			checkGraphMemory(t, list)
		}
	})
}
