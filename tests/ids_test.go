package tests

import (
	"fmt"
	"math"
	"math/rand"
	"slices"
	"strings"
	"testing"

	"loop.example/leaderlesslog/impl"
)

func id(replica, number int) impl.Id { return impl.Id{Replica: replica, Number: number} }

// validIds lists all valid ids, each one ahead of the next one, as chapter 3 tells them.
func validIds() []impl.Id {
	var list []impl.Id
	for replica := 0; replica <= 4; replica++ {
		for number := 1; number <= 50; number++ {
			list = append(list, id(replica, number))
		}
	}
	return list
}

// placeOfIds tells the place of each valid id in validIds.
func placeOfIds() map[impl.Id]int {
	places := map[impl.Id]int{}
	for i, a := range validIds() {
		places[a] = i
	}
	return places
}

// edgeIds lists ids with replicas and numbers at and beyond the limits, valid and invalid ones.
func edgeIds() []impl.Id {
	replicas := []int{math.MinInt, -1 << 32, -5, -2, -1, 0, 1, 3, 4, 5, 6, 50, 256, 1 << 32, 1<<32 + 1, math.MaxInt}
	numbers := []int{math.MinInt, -1 << 32, -50, -2, -1, 0, 1, 2, 5, 49, 50, 51, 52, 100, 257, 1 << 32, 1<<32 + 1, math.MaxInt}
	var list []impl.Id
	for _, replica := range replicas {
		for _, number := range numbers {
			list = append(list, id(replica, number))
		}
	}
	return list
}

// invalidIds lists ids of which one number is, or both are, not in range.
func invalidIds() []impl.Id {
	places := placeOfIds()
	return slices.DeleteFunc(edgeIds(), func(a impl.Id) bool {
		_, valid := places[a]
		return valid
	})
}

// idTexts lists the text of each valid id.
func idTexts() map[string]impl.Id {
	texts := map[string]impl.Id{}
	for _, a := range validIds() {
		texts[fmt.Sprintf("%d.%d", a.Replica, a.Number)] = a
	}
	return texts
}

func TestIdConstants(t *testing.T) {
	if impl.ReplicasMax != 5 || impl.NumberMax != 50 || impl.IdsMax != 12 {
		t.Errorf("the constants are %d, %d, %d", impl.ReplicasMax, impl.NumberMax, impl.IdsMax)
	}
}

// Promise 23, and what is valid at all.
func TestIdValid(t *testing.T) {
	places := placeOfIds()
	for a := range places {
		if !impl.IdValid(a) {
			t.Errorf("%v is not valid", a)
		}
	}
	for _, a := range edgeIds() {
		if _, want := places[a]; impl.IdValid(a) != want {
			t.Errorf("IdValid(%v) is not %v", a, want)
		}
	}
	for replica := -10; replica <= 20; replica++ {
		for number := -60; number <= 120; number++ {
			a := id(replica, number)
			if _, want := places[a]; impl.IdValid(a) != want {
				t.Errorf("IdValid(%v) is not %v", a, want)
			}
		}
	}
}

// Promise 23, by its words, and the same at the other two limits.
func TestIdInvalidBeyondLimits(t *testing.T) {
	for _, a := range validIds() {
		for _, bad := range []impl.Id{
			id(a.Replica, 0), id(impl.ReplicasMax, a.Number),
			id(-1, a.Number), id(a.Replica, impl.NumberMax+1), id(a.Replica, -a.Number),
		} {
			if impl.IdValid(bad) {
				t.Errorf("%v is valid", bad)
			}
		}
	}
}

// Promises 16 and 17, for each two valid ids.
func TestIdBefore(t *testing.T) {
	list := validIds()
	for i, a := range list {
		for j, b := range list {
			got := impl.IdBefore(a, b)
			if got != (i < j) {
				t.Fatalf("IdBefore(%v, %v) is %v", a, b, got)
			}
			if back := impl.IdBefore(b, a); (got == back) != (a == b) || got && back {
				t.Fatalf("IdBefore(%v, %v) is %v, and %v in the other direction", a, b, got, back)
			}
			if got && a.Replica >= b.Replica && (a.Replica != b.Replica || a.Number >= b.Number) {
				t.Fatalf("IdBefore(%v, %v) holds", a, b)
			}
		}
	}
}

func TestIdBeforeEdges(t *testing.T) {
	for _, test := range []struct {
		name string
		a, b impl.Id
		want bool
	}{
		{"the same replica", id(2, 1), id(2, 2), true},
		{"the same replica, at the limits", id(4, 1), id(4, 50), true},
		{"the same replica, and a number with more digits", id(0, 9), id(0, 10), true},
		{"the same number", id(0, 7), id(1, 7), true},
		{"the greater number at the less replica", id(0, 50), id(1, 1), true},
		{"the greater number at the less replica, at the limits", id(0, 50), id(4, 1), true},
		{"the greater number at the greater replica", id(1, 3), id(2, 9), true},
		{"an id and itself", id(2, 9), id(2, 9), false},
		{"the first id and itself", id(0, 1), id(0, 1), false},
		{"the last id and itself", id(4, 50), id(4, 50), false},
	} {
		if got := impl.IdBefore(test.a, test.b); got != test.want {
			t.Errorf("%s: IdBefore(%v, %v) is %v", test.name, test.a, test.b, got)
		}
		if impl.IdBefore(test.b, test.a) {
			t.Errorf("%s: IdBefore(%v, %v) holds", test.name, test.b, test.a)
		}
	}
}

// What is invalid is ahead of nothing, and nothing is ahead of it.
func TestIdBeforeInvalid(t *testing.T) {
	bad := invalidIds()
	for _, a := range bad {
		for _, b := range validIds() {
			if impl.IdBefore(a, b) || impl.IdBefore(b, a) {
				t.Fatalf("IdBefore holds for %v and %v", a, b)
			}
		}
		for _, b := range bad {
			if impl.IdBefore(a, b) {
				t.Fatalf("IdBefore(%v, %v) holds", a, b)
			}
		}
	}
}

// Promise 18, and the text itself.
func TestIdText(t *testing.T) {
	for want, a := range idTexts() {
		if got := impl.IdText(a); got != want {
			t.Errorf("IdText(%v) is %q", a, got)
		}
		if back, ok := impl.IdFrom(impl.IdText(a)); !ok || back != a {
			t.Errorf("IdFrom(%q) is %v, %v", want, back, ok)
		}
	}
	for _, test := range []struct {
		a    impl.Id
		want string
	}{{id(0, 1), "0.1"}, {id(0, 10), "0.10"}, {id(1, 9), "1.9"}, {id(4, 50), "4.50"}} {
		if got := impl.IdText(test.a); got != test.want {
			t.Errorf("IdText(%v) is %q", test.a, got)
		}
	}
	for _, a := range invalidIds() {
		if got := impl.IdText(a); got != "" {
			t.Errorf("IdText(%v) is %q", a, got)
		}
	}
}

// checkIdFrom holds IdFrom of a text, whatever it is, against the list of all texts.
func checkIdFrom(t *testing.T, texts map[string]impl.Id, s string) {
	t.Helper()
	want, wantOk := texts[s]
	got, ok := impl.IdFrom(s)
	if got != want || ok != wantOk {
		t.Errorf("IdFrom(%q) is %v, %v, not %v, %v", s, got, ok, want, wantOk)
	}
	if ok && (!impl.IdValid(got) || impl.IdText(got) != s) {
		t.Errorf("IdFrom(%q) is %v, which has the text %q", s, got, impl.IdText(got))
	}
}

// Promises 19 and 20: what differs from a text by a few bytes is a text only if it is one of the list.
func TestIdFromNearTexts(t *testing.T) {
	texts := idTexts()
	for s := range texts {
		checkIdFrom(t, texts, s)
		checkIdFrom(t, texts, s+s)
		checkIdFrom(t, texts, s+"."+s)
		for i := 0; i <= len(s); i++ {
			checkIdFrom(t, texts, s[:i])
			checkIdFrom(t, texts, s[i:])
			for _, more := range []string{" ", "  ", "0", "00", "1", "9", "-", "+", ".", "..", ",", "_", "a", "e1", "\t", "\n", "\r", "\x00", "\xff", "\u00a0", "\u0661", "\uff0e"} {
				checkIdFrom(t, texts, s[:i]+more+s[i:])
			}
			for j := i + 1; j <= len(s); j++ {
				checkIdFrom(t, texts, s[:i]+s[j:])
				checkIdFrom(t, texts, s[i:j])
			}
		}
	}
}

func TestIdFromAnyByte(t *testing.T) {
	texts := idTexts()
	for _, s := range []string{"0.1", "4.50", "1.9", "2.10", "3.49", "0.05"} {
		for i := range s {
			for b := range 256 {
				checkIdFrom(t, texts, s[:i]+string([]byte{byte(b)})+s[i+1:])
				checkIdFrom(t, texts, s[:i]+string([]byte{byte(b)})+s[i:])
			}
		}
		for b := range 256 {
			checkIdFrom(t, texts, s+string([]byte{byte(b)}))
		}
	}
}

// All texts of at most 4 bytes that have digits, points, signs and blanks only.
func TestIdFromShortTexts(t *testing.T) {
	texts := idTexts()
	row := []string{""}
	found := 0
	for range 4 {
		var longer []string
		for _, s := range row {
			for _, b := range "0123456789.-+ " {
				longer = append(longer, s+string(b))
			}
		}
		row = longer
		for _, s := range row {
			checkIdFrom(t, texts, s)
			if _, ok := impl.IdFrom(s); ok {
				found++
			}
		}
	}
	if found != 250 {
		t.Errorf("%d texts are ids", found)
	}
}

// Texts of numbers just and far beyond the limits.
func TestIdFromOutOfRange(t *testing.T) {
	texts := idTexts()
	for replica := -10; replica <= 120; replica++ {
		for number := -10; number <= 300; number++ {
			checkIdFrom(t, texts, fmt.Sprintf("%d.%d", replica, number))
		}
	}
	for _, a := range edgeIds() {
		checkIdFrom(t, texts, fmt.Sprintf("%d.%d", a.Replica, a.Number))
	}
}

// Promise 20, by its words.
func TestIdFromFurtherBlank(t *testing.T) {
	for s, a := range idTexts() {
		number := fmt.Sprint(a.Number)
		for _, far := range []string{
			s + " ", " " + s, "0" + s, "00" + s, " " + s + " ", s + "  ",
			fmt.Sprintf("%d.0%d", a.Replica, a.Number), fmt.Sprintf("%d .%d", a.Replica, a.Number),
			fmt.Sprintf("%d. %d", a.Replica, a.Number), fmt.Sprintf("%d.%s %s", a.Replica, number[:1], number[1:]),
		} {
			if b, ok := impl.IdFrom(far); ok || b != (impl.Id{}) {
				t.Errorf("IdFrom(%q) is %v, %v", far, b, ok)
			}
		}
	}
}

func TestIdFromInvalid(t *testing.T) {
	nines, zeros, long := strings.Repeat("9", 400), strings.Repeat("0", 400), strings.Repeat("1", 100000)
	for _, s := range []string{
		"", ".", "..", "...", " ", " . ", "1", "19", "1 9", "1,9", "1:9", "1-9", "1..9", "1.9.", ".1.9", "1.9.2", "1.2.3.4", ". 1.9",
		"1.", ".9", "1. ", " .9", "-.9", "1.-", "+.+", "0.", ".0", "0.0", "1.0", "4.0", "4.00", "0.00",
		"01.9", "00.9", "1.09", "1.009", "01.09", "000.1", "4.050", "0.01",
		"+1.9", "-1.9", "1.+9", "1.-9", "-0.9", "+0.9", "1.-0", "--1.9", "+1.+9", "-1.-9",
		" 1.9", "1.9 ", "1 .9", "1. 9", "1.9  ", "1.1 0", "\t1.9", "1.9\n", "1.9\r\n", "\n1.9", "1.9\x00", "\x001.9",
		"1.9a", "a1.9", "1a.9", "1.a9", "a.b", "x", "1.9x9", "one.nine", "1.0x9", "0x1.9", "1.1e1", "1e0.9", "1.1_0", "0b1.9", "0o1.9", "1.9f", "1.nine", "NaN.1", "Inf.1",
		"5.1", "5.50", "9.1", "10.1", "40.1", "1.51", "1.59", "1.60", "1.99", "1.100", "1.500", "5.51", "-1.51", "-1.1", "-1.0",
		"4294967296.1", "4294967297.9", "1.4294967305", "18446744073709551616.1", "18446744073709551617.9", "1.18446744073709551617", "1.9223372036854775807", "1.9223372036854775808",
		"9223372036854775808.1", "-9223372036854775808.1", "1.-9223372036854775808", "-18446744073709551615.1",
		nines + ".1", "1." + nines, nines + "." + nines, zeros + "1.9", "1." + zeros + "9", zeros + ".1", "1." + zeros, "-" + nines + ".1",
		long, long + "." + long, "1." + long, long + ".1", "." + long, long + ".", strings.Repeat(".", 100000), strings.Repeat("1.9", 5000), strings.Repeat(" ", 5000),
		"\xff.\xfe", "1.\xff", "\xff.9", "1\xff.9", "1.\xc3\x28", "\u0661.9", "1.\u0669", "\uff11.9", "1\u00b79", "1\uff0e9", "\ufeff1.9", "1.9\u00a0",
	} {
		if a, ok := impl.IdFrom(s); ok || a != (impl.Id{}) {
			t.Errorf("IdFrom(%.40q) is %v, %v", s, a, ok)
		}
	}
}

func FuzzIdFrom(f *testing.F) {
	texts := idTexts()
	for _, s := range []string{"", ".", "0.1", "4.50", "1.9.9", "1.09", "5.1", "-1.1"} {
		f.Add(s)
	}
	f.Fuzz(func(t *testing.T, s string) {
		checkIdFrom(t, texts, s)
	})
}

// wantSort returns what IdsSort has to return, from the list of all ids, without sorting.
func wantSort(list []impl.Id) ([]impl.Id, bool) {
	given := map[impl.Id]bool{}
	for _, a := range list {
		given[a] = true
	}
	var sorted []impl.Id
	for _, a := range validIds() {
		if given[a] {
			sorted = append(sorted, a)
		}
	}
	if len(sorted) != len(given) || len(sorted) > 12 {
		return nil, false
	}
	return sorted, true
}

// checkSort holds IdsSort of a list, whatever it is, against the document.
func checkSort(t *testing.T, list []impl.Id) {
	t.Helper()
	want, wantOk := wantSort(list)
	before := slices.Clone(list)
	got, ok := impl.IdsSort(list)
	if ok != wantOk || !slices.Equal(got, want) {
		t.Fatalf("IdsSort(%v) is %v, %v, not %v, %v", list, got, ok, want, wantOk)
	}
	if !slices.Equal(list, before) {
		t.Fatalf("IdsSort(%v) makes it %v", before, list)
	}
}

// checkSortWords holds a list against the promises 21 and 22.
func checkSortWords(t *testing.T, list []impl.Id) {
	t.Helper()
	sorted, ok := impl.IdsSort(list)
	if !ok {
		t.Fatalf("IdsSort(%v) fails", list)
	}
	for i := 1; i < len(sorted); i++ {
		if !impl.IdBefore(sorted[i-1], sorted[i]) {
			t.Fatalf("IdsSort(%v) is %v", list, sorted)
		}
	}
	for _, a := range list {
		if !slices.Contains(sorted, a) {
			t.Fatalf("IdsSort(%v) is %v, without %v", list, sorted, a)
		}
	}
	for _, a := range sorted {
		if !slices.Contains(list, a) {
			t.Fatalf("IdsSort(%v) is %v, with %v", list, sorted, a)
		}
	}
	again, okAgain := impl.IdsSort(sorted)
	backwards := slices.Clone(list)
	slices.Reverse(backwards)
	other, okOther := impl.IdsSort(backwards)
	if !okAgain || !okOther || !slices.Equal(again, sorted) || !slices.Equal(other, sorted) {
		t.Fatalf("IdsSort(%v) is %v, again %v, %v, and backwards %v, %v", list, sorted, again, okAgain, other, okOther)
	}
}

// wantNoSort checks that IdsSort fails, with zero values.
func wantNoSort(t *testing.T, list []impl.Id) {
	t.Helper()
	if got, ok := impl.IdsSort(list); ok || len(got) != 0 {
		t.Fatalf("IdsSort(%v) is %v, %v", list, got, ok)
	}
}

// someIds returns so many different valid ids, in any order.
func someIds(random *rand.Rand, many int) []impl.Id {
	all := validIds()
	random.Shuffle(len(all), func(i, j int) { all[i], all[j] = all[j], all[i] })
	return all[:many:many]
}

// repeated returns a list of some length that has all of some ids, in any order.
func repeated(random *rand.Rand, ids []impl.Id, long int) []impl.Id {
	list := slices.Clone(ids)
	for len(list) < long {
		list = append(list, ids[random.Intn(len(ids))])
	}
	random.Shuffle(len(list), func(i, j int) { list[i], list[j] = list[j], list[i] })
	return list
}

func TestIdsSortNone(t *testing.T) {
	for _, list := range [][]impl.Id{nil, {}, make([]impl.Id, 0, 20)} {
		got, ok := impl.IdsSort(list)
		if !ok || len(got) != 0 {
			t.Errorf("IdsSort of no id is %v, %v", got, ok)
		}
	}
}

// Promises 21 and 22, for each one and each two valid ids.
func TestIdsSortFew(t *testing.T) {
	list := validIds()
	for i, a := range list {
		checkSort(t, []impl.Id{a})
		checkSort(t, []impl.Id{a, a})
		checkSort(t, slices.Repeat([]impl.Id{a}, 12))
		checkSort(t, slices.Repeat([]impl.Id{a}, 13))
		checkSort(t, slices.Repeat([]impl.Id{a}, 1000))
		for j, b := range list {
			got, ok := impl.IdsSort([]impl.Id{a, b})
			want := []impl.Id{list[min(i, j)], list[max(i, j)]}
			if !ok || !slices.Equal(got, slices.Compact(want)) {
				t.Fatalf("IdsSort of %v and %v is %v, %v", a, b, got, ok)
			}
		}
	}
}

// Promises 21 and 22, for lists of up to IdsMax different ids, each once or more often.
func TestIdsSort(t *testing.T) {
	random := rand.New(rand.NewSource(21))
	for many := 1; many <= 12; many++ {
		for range 40 {
			ids := someIds(random, many)
			for _, long := range []int{many, many + 1, 12, 13, 40, 500} {
				list := repeated(random, ids, long)
				checkSort(t, list)
				checkSortWords(t, list)
			}
		}
	}
}

func TestIdsSortDirections(t *testing.T) {
	all := validIds()
	for from := 0; from+12 <= len(all); from++ {
		list := slices.Clone(all[from : from+12])
		checkSort(t, list)
		checkSortWords(t, list)
		slices.Reverse(list)
		checkSort(t, list)
		checkSortWords(t, list)
		checkSort(t, append(list, list...))
	}
	mixed := []impl.Id{id(4, 1), id(0, 50), id(4, 50), id(1, 10), id(1, 9), id(0, 1), id(0, 50), id(2, 3), id(4, 1)}
	want := []impl.Id{id(0, 1), id(0, 50), id(1, 9), id(1, 10), id(2, 3), id(4, 1), id(4, 50)}
	if got, ok := impl.IdsSort(mixed); !ok || !slices.Equal(got, want) {
		t.Errorf("IdsSort(%v) is %v, %v", mixed, got, ok)
	}
}

// What counts is how many different ids there are, wherever the last one stands.
func TestIdsSortLimit(t *testing.T) {
	random := rand.New(rand.NewSource(22))
	for range 200 {
		ids := someIds(random, 13)
		for _, long := range []int{12, 13, 100, 2000} {
			checkSort(t, repeated(random, ids[:12], long))
		}
		for _, long := range []int{13, 14, 100, 2000} {
			wantNoSort(t, repeated(random, ids, long))
		}
		most := repeated(random, ids[:12], 100)
		for _, place := range []int{0, 1, 50, 99, 100} {
			wantNoSort(t, slices.Insert(slices.Clone(most), place, ids[12]))
			checkSort(t, slices.Insert(slices.Clone(most), place, ids[11]))
		}
	}
	all := validIds()
	for _, many := range []int{13, 14, 24, 25, 100, 250} {
		wantNoSort(t, all[:many])
		wantNoSort(t, all[250-many:])
		backwards := slices.Clone(all[:many])
		slices.Reverse(backwards)
		wantNoSort(t, backwards)
	}
	large := slices.Repeat(all[100:112], 20000)
	checkSort(t, large)
	wantNoSort(t, append(large, all[0]))
}

// One invalid id makes the list fail, wherever it stands and whatever else is there.
func TestIdsSortInvalid(t *testing.T) {
	random := rand.New(rand.NewSource(23))
	for _, bad := range invalidIds() {
		wantNoSort(t, []impl.Id{bad})
		wantNoSort(t, []impl.Id{bad, bad})
		wantNoSort(t, slices.Repeat([]impl.Id{bad}, 20))
		for _, many := range []int{1, 2, 11, 12, 13, 20} {
			list := someIds(random, many)
			for _, place := range []int{0, many / 2, many} {
				wantNoSort(t, slices.Insert(slices.Clone(list), place, bad))
			}
		}
		long := repeated(random, someIds(random, 12), 60)
		for _, place := range []int{0, 30, 60} {
			wantNoSort(t, slices.Insert(slices.Clone(long), place, bad))
		}
	}
	for _, a := range validIds() {
		wantNoSort(t, []impl.Id{a, id(a.Replica, 0)})
		wantNoSort(t, []impl.Id{id(a.Replica, 51), a})
		wantNoSort(t, []impl.Id{a, id(5, a.Number), a})
		wantNoSort(t, []impl.Id{a, id(-1, a.Number)})
	}
}

// spoilIds changes all ids of a slice, and what is behind its end.
func spoilIds(list []impl.Id) {
	for i := range list {
		list[i] = id(-77, -77)
	}
	for i, far := len(list), append(list, id(-78, -78), id(-79, -79)); i < len(far); i++ {
		far[i] = id(-80, -80)
	}
	for i, all := len(list), list[:cap(list)]; i < len(all); i++ {
		all[i] = id(-81, -81)
	}
}

func TestIdsSortMemory(t *testing.T) {
	random := rand.New(rand.NewSource(24))
	ids := someIds(random, 12)
	inOrder, _ := wantSort(ids)
	backwards := slices.Clone(inOrder)
	slices.Reverse(backwards)
	for _, list := range [][]impl.Id{{}, {id(1, 1)}, {id(1, 1), id(1, 1)}, inOrder[:5], inOrder, backwards, ids, repeated(random, ids, 30)} {
		whole := append(append(make([]impl.Id, 0, 80), list...), id(3, 33), id(-1, 99), id(0, 1))
		given, before := whole[:len(list)], slices.Clone(whole)
		want, _ := wantSort(list)
		sorted, ok := impl.IdsSort(given)
		again, okAgain := impl.IdsSort(given)
		if !ok || !okAgain || !slices.Equal(whole, before) || sharing(whole, sorted, again) {
			t.Fatalf("IdsSort of %v changes or shares what it is given", list)
		}
		third, _ := impl.IdsSort(sorted)
		if sharing(sorted, third) {
			t.Fatalf("IdsSort of %v shares what it is given", sorted)
		}
		spoilIds(sorted)
		if !slices.Equal(whole, before) || !slices.Equal(again, want) || !slices.Equal(third, want) {
			t.Errorf("behind IdsSort of %v, its result changes %v, %v or %v", list, whole, again, third)
		}
		spoilIds(given)
		if !slices.Equal(again, want) || !slices.Equal(third, want) {
			t.Errorf("behind IdsSort of %v, its argument changes %v or %v", list, again, third)
		}
	}
}

// What fails changes nothing either, and gives out no memory of its argument.
func TestIdsSortFailsMemory(t *testing.T) {
	for _, list := range [][]impl.Id{{id(5, 1)}, {id(2, 2), id(1, 1), id(0, 0)}, {id(-1, 1), id(4, 4), id(3, 3)}, validIds()[:13], validIds()} {
		whole := append(append(make([]impl.Id, 0, 300), list...), id(3, 33), id(-1, 99))
		given, before := whole[:len(list)], slices.Clone(whole)
		slices.Reverse(given)
		slices.Reverse(before[:len(list)])
		got, ok := impl.IdsSort(given)
		again, _ := impl.IdsSort(given)
		if ok || len(got) != 0 || !slices.Equal(whole, before) || sharing(whole, got, again) {
			t.Fatalf("IdsSort of %v is %v, %v, or changes or shares what it is given", list, got, ok)
		}
		spoilIds(got)
		if !slices.Equal(whole, before) {
			t.Errorf("behind IdsSort of %v, its result changes %v", list, whole)
		}
	}
}
