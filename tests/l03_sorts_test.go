package tests

import (
	"math"
	"math/rand"
	"reflect"
	"slices"
	"strings"
	"testing"

	"loop.example/g03107/impl"
)

// sortRelation says for two sorts whether the first one is below the second one.
type sortRelation [8][8]bool

// relationOf finds by search which sorts are reached from which, without any function of the program.
func relationOf(count int, subs []impl.Sub) sortRelation {
	var below sortRelation
	for from := range count {
		waiting := []int{from}
		for len(waiting) > 0 {
			at := waiting[0]
			waiting = waiting[1:]
			if below[from][at] {
				continue
			}
			below[from][at] = true
			for _, sub := range subs {
				if sub.Low == at {
					waiting = append(waiting, sub.High)
				}
			}
		}
	}
	return below
}

func (below sortRelation) isOrder() bool {
	for a := range below {
		for b := range a {
			if below[a][b] && below[b][a] {
				return false
			}
		}
	}
	return true
}

// filterSorts gives the set of the elements of a set that keep accepts.
func filterSorts(set int, keep func(k int) bool) int {
	result := 0
	for _, k := range elementsByDivision(set) {
		if keep(k) {
			result += 1 << k
		}
	}
	return result
}

func (below sortRelation) least(set int) int {
	return filterSorts(set, func(k int) bool {
		return filterSorts(set, func(other int) bool { return other != k && below[other][k] }) == 0
	})
}

func (below sortRelation) greatest(set int) int {
	return filterSorts(set, func(k int) bool {
		return filterSorts(set, func(other int) bool { return other != k && below[k][other] }) == 0
	})
}

func sortNames(count int) []string {
	return strings.Split("A B C D E F G H I J", " ")[:count]
}

// sortsOf gives count sorts with the pairs, which are written as "AB CD" for A below B and C below D.
func sortsOf(count int, pairs string) impl.Sorts {
	s := impl.Sorts{Names: sortNames(count)}
	for _, pair := range strings.Fields(pairs) {
		s.Subs = append(s.Subs, impl.Sub{Low: int(pair[0] - 'A'), High: int(pair[1] - 'A')})
	}
	return s
}

func wrongSorts() []int {
	return []int{-1, -2, -8, -64, 8, 9, 15, 16, 17, 63, 64, 256, 1 << 32, math.MaxInt, math.MinInt, math.MinInt + 1}
}

func checkIsSorts(t *testing.T, s impl.Sorts, want bool) {
	t.Helper()
	if got := impl.IsSorts(s); got != want {
		t.Fatalf("IsSorts(%q, %v) = %v", s.Names, s.Subs, got)
	}
	if !want {
		checkNoSorts(t, s)
	}
}

// checkNoSorts checks what the functions return for sorts that are not valid.
func checkNoSorts(t *testing.T, s impl.Sorts) {
	t.Helper()
	numbers := append(wrongSorts(), 0, 1, 2, 3, 4, 5, 6, 7, 255, greatestSet)
	for _, n := range numbers {
		checkResults(t, s, n, [5]int{0, 0, -1, 0, 0})
		for _, other := range numbers[len(wrongSorts()):] {
			checkCommon(t, s, n, other, 0)
		}
	}
}

// checkResults checks the functions of one number, taken as a sort and as a set.
func checkResults(t *testing.T, s impl.Sorts, n int, want [5]int) {
	t.Helper()
	got := [5]int{impl.AboveSort(s, n), impl.BelowSort(s, n), impl.KindOfSort(s, n), impl.LeastSorts(s, n), impl.GreatestSorts(s, n)}
	if got != want {
		t.Fatalf("above, below, kind, least and greatest of %d in %q, %v: %v, want %v", n, s.Names, s.Subs, got, want)
	}
}

func checkCommon(t *testing.T, s impl.Sorts, a, b, want int) {
	t.Helper()
	if got := impl.CommonSorts(s, a, b); got != want {
		t.Fatalf("CommonSorts(%q, %v, %d, %d) = %d, want %d", s.Names, s.Subs, a, b, got, want)
	}
}

// checkAgainst checks all functions for all sorts and sets against an independent computation.
func checkAgainst(t *testing.T, s impl.Sorts) {
	t.Helper()
	count := len(s.Names)
	below := relationOf(count, s.Subs)
	checkIsSorts(t, s, below.isOrder())
	if !below.isOrder() {
		return
	}
	both := slices.Clone(s.Subs)
	for _, sub := range s.Subs {
		both = append(both, impl.Sub{Low: sub.High, High: sub.Low})
	}
	connected := relationOf(count, both)
	all := 1<<count - 1
	for n := range all + 1 {
		want := [5]int{0, 0, -1, below.least(n), below.greatest(n)}
		if n < count {
			want[0] = filterSorts(all, func(k int) bool { return below[n][k] })
			want[1] = filterSorts(all, func(k int) bool { return below[k][n] })
			want[2] = slices.Index(connected[n][:], true)
		}
		checkResults(t, s, n, want)
	}
	for a := range count {
		for b := range count {
			under := filterSorts(all, func(k int) bool { return below[k][a] && below[k][b] })
			checkCommon(t, s, a, b, below.greatest(under))
		}
	}
}

func TestIsName(t *testing.T) {
	cases := []struct {
		text string
		want bool
	}{
		{"", false},
		{"a", true},
		{"z", true},
		{"A", true},
		{"Z", true},
		{"Nat", true},
		{"x1", true},
		{"a0b9Z", true},
		{"1x", false},
		{"0", false},
		{"if", false},
		{"and", false},
		{"If", true},
		{"iF", true},
		{"IF", true},
		{"And", true},
		{"AND", true},
		{"i", true},
		{"an", true},
		{"iff", true},
		{"andy", true},
		{"band", true},
		{"if1", true},
		{" if", false},
		{"abcdefghijkl", true},
		{"abcdefghijk1", true},
		{"abcdefghijklm", false},
		{"abcdefghijk12", false},
		{"a b", false},
		{"a ", false},
		{" a", false},
		{"a_b", false},
		{"é", false},
		{"aé", false},
		{"a\x00", false},
		{strings.Repeat("a", 100000), false},
	}
	for _, c := range cases {
		if got := impl.IsName(c.text); got != c.want {
			t.Errorf("IsName(%q) = %v", c.text, got)
		}
	}
}

func TestIsNameTriesEveryByte(t *testing.T) {
	const letters = "abcdefghijklmnopqrstuvwxyzABCDEFGHIJKLMNOPQRSTUVWXYZ"
	const later = letters + "0123456789"
	for n := range 256 {
		b := string([]byte{byte(n)})
		if got := impl.IsName(b); got != strings.Contains(letters, b) {
			t.Errorf("IsName(%q) = %v", b, got)
		}
		for size := 2; size <= 13; size++ {
			for place := 1; place < size; place++ {
				text := strings.Repeat("x", place) + b + strings.Repeat("x", size-place-1)
				if got := impl.IsName(text); got != (strings.Contains(later, b) && size <= 12) {
					t.Errorf("IsName(%q) = %v", text, got)
				}
			}
		}
	}
}

func TestIsSortsNames(t *testing.T) {
	cases := []struct {
		names []string
		want  bool
	}{
		{nil, false},
		{[]string{}, false},
		{[]string{"A"}, true},
		{[]string{""}, false},
		{[]string{"if"}, false},
		{[]string{"A", "and"}, false},
		{[]string{"A", "1"}, false},
		{[]string{"A", "B"}, true},
		{[]string{"A", "A"}, false},
		{[]string{"A", "a"}, true},
		{[]string{"A", "B", "A"}, false},
		{[]string{"B", "A", "A"}, false},
		{[]string{"B", "A", ""}, false},
		{[]string{"abcdefghijkl", "abcdefghijkk"}, true},
		{[]string{"abcdefghijklm"}, false},
		{sortNames(8), true},
		{sortNames(9), false},
		{sortNames(10), false},
		{make([]string, 100000), false},
	}
	for _, c := range cases {
		checkIsSorts(t, impl.Sorts{Names: c.names}, c.want)
		checkIsSorts(t, impl.Sorts{Names: c.names, Subs: []impl.Sub{}}, c.want)
	}
	for place := range 8 {
		for _, wrong := range []string{"", "if", "and", "9", "a-b", "abcdefghijklm"} {
			names := sortNames(8)
			names[place] = wrong
			checkIsSorts(t, impl.Sorts{Names: names}, false)
		}
		for other := range place {
			names := sortNames(8)
			names[place] = names[other]
			checkIsSorts(t, impl.Sorts{Names: names}, false)
		}
	}
}

func TestIsSortsPairs(t *testing.T) {
	cases := []struct {
		count int
		pairs string
		want  bool
	}{
		{1, "", true},
		{1, "AA", false},
		{1, "AB", false},
		{1, "BA", false},
		{2, "AB", true},
		{2, "BA", true},
		{2, "AB AB", true},
		{2, "AB BB", false},
		{2, "AB BA", false},
		{2, "AB AC", false},
		{3, "AB BC", true},
		{3, "AB BC AC", true},
		{3, "AB BC CA", false},
		{3, "CB BA AC", false},
		{4, "AB AC BD CD", true},
		{4, "AB AC BD CD DA", false},
		{8, "AB BC CD DE EF FG GH", true},
		{8, "GH FG EF DE CD BC AB", true},
		{8, "AB BC CD DE EF FG GH HA", false},
		{8, "HG GF FE ED DC CB BA AH", false},
		{8, "AB CD DE EC", false},
		{8, "AC AD AE AF AG AH BC BD BE BF BG BH CG CH DG DH", true},
		{8, "AC AD AE AF AG AH BC BD BE BF BG BH CG CH DG DH EG", false},
		{8, strings.Repeat("AB ", 16), true},
		{8, strings.Repeat("AB ", 17), false},
		{2, strings.Repeat("AB ", 15) + "BA", false},
		{2, strings.Repeat("AB ", 15) + "AA", false},
		{2, strings.Repeat("AB ", 15) + "AC", false},
		{2, strings.Repeat("AB ", 100000), false},
	}
	for _, c := range cases {
		checkIsSorts(t, sortsOf(c.count, c.pairs), c.want)
	}
}

func TestIsSortsPairsOfOtherNumbers(t *testing.T) {
	for count := 1; count <= 8; count++ {
		for _, wrong := range append(wrongSorts(), count) {
			for k := range count {
				for _, sub := range []impl.Sub{{Low: k, High: wrong}, {Low: wrong, High: k}, {Low: wrong, High: wrong}} {
					s := sortsOf(count, "")
					s.Subs = []impl.Sub{sub}
					checkIsSorts(t, s, false)
				}
			}
		}
	}
}

func TestSortsBelowAndAbove(t *testing.T) {
	diamond := sortsOf(6, "AB AC BD CD")
	for k, want := range [][3]int{{15, 1, 0}, {10, 3, 0}, {12, 5, 0}, {8, 15, 0}, {16, 16, 4}, {32, 32, 5}} {
		got := [3]int{impl.AboveSort(diamond, k), impl.BelowSort(diamond, k), impl.KindOfSort(diamond, k)}
		if got != want {
			t.Errorf("above, below and kind of %d: %v, want %v", k, got, want)
		}
	}
	// The least sort of a kind may be reached only by going up and down.
	zigzag := sortsOf(8, "HG FG FE DE DC BC BA")
	for k, want := range [][3]int{{1, 3, 0}, {7, 2, 0}, {4, 14, 0}, {28, 8, 0}, {16, 56, 0}, {112, 32, 0}, {64, 224, 0}, {192, 128, 0}} {
		got := [3]int{impl.AboveSort(zigzag, k), impl.BelowSort(zigzag, k), impl.KindOfSort(zigzag, k)}
		if got != want {
			t.Errorf("above, below and kind of %d: %v, want %v", k, got, want)
		}
	}
}

func TestSortsBetweenLeastAndGreatest(t *testing.T) {
	cases := []struct {
		pairs                string
		set, least, greatest int
	}{
		{"", 0, 0, 0},
		{"", 15, 15, 15},
		{"", 10, 10, 10},
		{"AB BC CD", 15, 1, 8},
		{"AB BC CD", 5, 1, 4},
		{"AB BC CD", 9, 1, 8},
		{"AB BC CD", 6, 2, 4},
		{"AB BC CD", 4, 4, 4},
		{"DC CB BA", 15, 8, 1},
		{"DC CB BA", 5, 4, 1},
		{"AB AC BD CD", 15, 1, 8},
		{"AB AC BD CD", 6, 6, 6},
		{"AB AC BD CD", 7, 1, 6},
		{"AB AC BD CD", 14, 6, 8},
		{"AC BC", 15, 11, 12},
		{"AC BC", 11, 11, 11},
	}
	for _, c := range cases {
		s := sortsOf(4, c.pairs)
		if got := impl.LeastSorts(s, c.set); got != c.least {
			t.Errorf("LeastSorts(%q, %d) = %d", c.pairs, c.set, got)
		}
		if got := impl.GreatestSorts(s, c.set); got != c.greatest {
			t.Errorf("GreatestSorts(%q, %d) = %d", c.pairs, c.set, got)
		}
	}
}

func TestCommonSorts(t *testing.T) {
	cases := []struct {
		count      int
		pairs      string
		a, b, want int
	}{
		{1, "", 0, 0, 1},
		{2, "", 0, 1, 0},
		{2, "AB", 0, 1, 1},
		{2, "AB", 1, 0, 1},
		{2, "AB", 1, 1, 2},
		{3, "AB AC", 1, 2, 1},
		{3, "BA CA", 1, 2, 0},
		{4, "AC AD BC BD", 2, 3, 3},
		{4, "AC AD BC", 2, 3, 1},
		{5, "AB BD BE AC", 3, 4, 2},
		{8, "AB BC CD DE EF FG GH", 6, 7, 64},
		{8, "AB BC CD DE EF FG GH", 7, 0, 1},
	}
	for _, c := range cases {
		checkCommon(t, sortsOf(c.count, c.pairs), c.a, c.b, c.want)
	}
}

func TestSortsThatDoNotExist(t *testing.T) {
	for count := 1; count <= 8; count++ {
		s := sortsOf(count, "")
		if count > 1 {
			s = sortsOf(count, "AB")
		}
		for _, k := range append(wrongSorts(), count, count+1) {
			if impl.AboveSort(s, k) != 0 || impl.BelowSort(s, k) != 0 || impl.KindOfSort(s, k) != -1 {
				t.Errorf("sort %d of %d", k, count)
			}
			checkCommon(t, s, k, 0, 0)
			checkCommon(t, s, 0, k, 0)
			checkCommon(t, s, k, k, 0)
		}
	}
}

func TestSetsWithNumbersThatAreNoSorts(t *testing.T) {
	for count := 1; count <= 8; count++ {
		s := sortsOf(count, "")
		sets := invalidSets()
		for k := count; k < 16; k++ {
			sets = append(sets, 1<<k, 1<<k+1, 1<<k+1<<count-1)
		}
		for _, set := range sets {
			if impl.LeastSorts(s, set) != 0 || impl.GreatestSorts(s, set) != 0 {
				t.Errorf("set %d of %d sorts", set, count)
			}
		}
		all := 1<<count - 1
		if impl.LeastSorts(s, all) != all || impl.GreatestSorts(s, all) != all {
			t.Errorf("all %d sorts", count)
		}
	}
}

// pairsFrom gives the pairs of different sorts whose bits are set, counted row by row.
func pairsFrom(count, bits int) []impl.Sub {
	subs := []impl.Sub{}
	for low := range count {
		for high := range count {
			if low == high {
				continue
			}
			if bits%2 == 1 {
				subs = append(subs, impl.Sub{Low: low, High: high})
			}
			bits /= 2
		}
	}
	return subs
}

func TestEveryRelationOfFewSorts(t *testing.T) {
	for count := 1; count <= 4; count++ {
		for bits := range 1 << (count * (count - 1)) {
			s := impl.Sorts{Names: sortNames(count), Subs: pairsFrom(count, bits)}
			checkAgainst(t, s)
			slices.Reverse(s.Subs)
			checkAgainst(t, s)
		}
	}
}

// randomSorts gives sorts with pairs, most of which go up in a shuffled order, so that circles occur but are not the rule.
func randomSorts(source *rand.Rand) impl.Sorts {
	count := 2 + source.Intn(7)
	s := impl.Sorts{Names: sortNames(count)}
	place := source.Perm(count)
	for range source.Intn(17) {
		low, high := source.Intn(count), source.Intn(count)
		if low == high {
			continue
		}
		if low > high && source.Intn(30) > 0 {
			low, high = high, low
		}
		s.Subs = append(s.Subs, impl.Sub{Low: place[low], High: place[high]})
	}
	return s
}

func TestRandomSorts(t *testing.T) {
	source := rand.New(rand.NewSource(5))
	for range 1500 {
		checkAgainst(t, randomSorts(source))
	}
}

// The longest paths need most rounds of a closure, whatever the order of the pairs is.
func TestPathsOfAllSorts(t *testing.T) {
	source := rand.New(rand.NewSource(6))
	for range 500 {
		s := impl.Sorts{Names: sortNames(8)}
		place := source.Perm(8)
		for i := range 7 {
			s.Subs = append(s.Subs, impl.Sub{Low: place[i], High: place[i+1]})
		}
		source.Shuffle(7, func(i, j int) { s.Subs[i], s.Subs[j] = s.Subs[j], s.Subs[i] })
		for i, k := range place {
			want := 0
			for _, higher := range place[i:] {
				want += 1 << higher
			}
			if got := impl.AboveSort(s, k); got != want {
				t.Fatalf("AboveSort(%v, %d) = %d, want %d", s.Subs, k, got, want)
			}
		}
		checkResults(t, s, 255, [5]int{0, 0, -1, 1 << place[0], 1 << place[7]})
		s.Subs = append(s.Subs, impl.Sub{Low: place[7], High: place[0]})
		checkIsSorts(t, s, false)
	}
}

func TestSortsAreOrdered(t *testing.T) {
	source := rand.New(rand.NewSource(7))
	for range 3000 {
		s := randomSorts(source)
		if !impl.IsSorts(s) {
			continue
		}
		for a := range s.Names {
			above := impl.AboveSort(s, a)
			if !impl.IsSubset(1<<a, above) {
				t.Fatalf("%v: %d is not above itself", s.Subs, a)
			}
			for b := range s.Names {
				isAbove := impl.IsSubset(1<<b, above)
				if isAbove != impl.IsSubset(impl.AboveSort(s, b), above) || isAbove != impl.IsSubset(1<<a, impl.BelowSort(s, b)) {
					t.Fatalf("%v: the sorts above %d and %d", s.Subs, a, b)
				}
				if isAbove && a != b && impl.IsSubset(1<<a, impl.AboveSort(s, b)) {
					t.Fatalf("%v: %d and %d are above each other", s.Subs, a, b)
				}
				if isAbove && impl.KindOfSort(s, a) != impl.KindOfSort(s, b) {
					t.Fatalf("%v: the kinds of %d and %d", s.Subs, a, b)
				}
			}
		}
	}
}

func TestEverySetIsBetweenItsLeastAndGreatest(t *testing.T) {
	source := rand.New(rand.NewSource(8))
	for range 300 {
		s := randomSorts(source)
		if !impl.IsSorts(s) {
			continue
		}
		for set := range 1 << len(s.Names) {
			least, greatest := impl.LeastSorts(s, set), impl.GreatestSorts(s, set)
			if !impl.IsSubset(least, set) || !impl.IsSubset(greatest, set) {
				t.Fatalf("%v: least %d and greatest %d are no parts of %d", s.Subs, least, greatest, set)
			}
			for _, k := range impl.ListOf(set) {
				if impl.BelowSort(s, k)&least == 0 || impl.AboveSort(s, k)&greatest == 0 {
					t.Fatalf("%v: %d is not between the least %d and the greatest %d of %d", s.Subs, k, least, greatest, set)
				}
			}
			for _, k := range impl.ListOf(least) {
				if impl.AboveSort(s, k)&least != 1<<k {
					t.Fatalf("%v: two of the least %d are comparable", s.Subs, least)
				}
			}
			for _, k := range impl.ListOf(greatest) {
				if impl.BelowSort(s, k)&greatest != 1<<k {
					t.Fatalf("%v: two of the greatest %d are comparable", s.Subs, greatest)
				}
			}
		}
	}
}

// The names of the sorts and repeated pairs have no influence on the order.
func TestOrderDependsOnlyOnWhichPairsOccur(t *testing.T) {
	source := rand.New(rand.NewSource(9))
	for range 300 {
		s := randomSorts(source)
		other := impl.Sorts{Names: sortNames(10)[10-len(s.Names):], Subs: slices.Clone(s.Subs)}
		for len(other.Subs) > 0 && len(other.Subs) < 16 {
			other.Subs = append(other.Subs, s.Subs[source.Intn(len(s.Subs))])
		}
		source.Shuffle(len(other.Subs), func(i, j int) { other.Subs[i], other.Subs[j] = other.Subs[j], other.Subs[i] })
		if impl.IsSorts(s) != impl.IsSorts(other) {
			t.Fatalf("IsSorts differs for %v and %v", s.Subs, other.Subs)
		}
		for n := range 256 {
			checkResults(t, other, n, [5]int{impl.AboveSort(s, n), impl.BelowSort(s, n), impl.KindOfSort(s, n), impl.LeastSorts(s, n), impl.GreatestSorts(s, n)})
		}
	}
}

func TestSortsAreLeft(t *testing.T) {
	names := []string{"B", "A", "C", "spare", ""}
	subs := []impl.Sub{{Low: 2, High: 1}, {Low: 1, High: 0}, {Low: 2, High: 0}, {Low: 0, High: 2}, {Low: -1, High: 99}}
	wantNames, wantSubs := slices.Clone(names), slices.Clone(subs)
	for _, used := range []int{0, 1, 3, 4, 5} {
		s := impl.Sorts{Names: names[:3], Subs: subs[:used]}
		first := allResults(s)
		if !slices.Equal(names, wantNames) || !slices.Equal(subs, wantSubs) {
			t.Fatal(names, subs)
		}
		if second := allResults(s); !reflect.DeepEqual(first, second) {
			t.Fatalf("%v, then %v", first, second)
		}
	}
}

func allResults(s impl.Sorts) []int {
	list := []int{}
	if impl.IsSorts(s) {
		list = append(list, 1)
	}
	for n := -1; n <= 8; n++ {
		list = append(list, impl.AboveSort(s, n), impl.BelowSort(s, n), impl.KindOfSort(s, n), impl.LeastSorts(s, n), impl.GreatestSorts(s, n))
		list = append(list, impl.CommonSorts(s, n, 0), impl.CommonSorts(s, 1, n))
	}
	return list
}
