package tests

import (
	"math"
	"math/rand"
	"slices"
	"testing"

	"loop.example/g03107/impl"
)

const greatestSet = 65535

// elementsByDivision gives the elements of a valid set without any function of the program.
func elementsByDivision(set int) []int {
	list := []int{}
	for n := range 16 {
		if set%2 == 1 {
			list = append(list, n)
		}
		set /= 2
	}
	return list
}

// invalidSets gives ints that are no sets, many with the low bits of one.
func invalidSets() []int {
	list := []int{
		-1, -2, -9, -65535, -65536, -65537, 65536, 65537, 65545, 131071, 131072,
		math.MaxInt, math.MaxInt - 1, math.MinInt, math.MinInt + 1, math.MinInt + 9,
		math.MaxInt32, math.MinInt32, math.MaxUint32,
	}
	for bit := 16; bit < 63; bit++ {
		list = append(list, 1<<bit, 1<<bit+9, 1<<bit+greatestSet, -1<<bit, -1<<bit+9)
	}
	return list
}

// invalidNumbers gives ints that are no elements, many that are one if only some of their bits are looked at.
func invalidNumbers() []int {
	list := []int{-1, -2, -15, -16, -17, -64, 16, 17, 31, 63, math.MaxInt, math.MinInt, math.MinInt + 1}
	for bit := 4; bit < 63; bit++ {
		list = append(list, 1<<bit, 1<<bit+3, -1<<bit, -1<<bit+3)
	}
	return list
}

func checkSetOf(t *testing.T, list []int, want int, wantOk bool) {
	t.Helper()
	if got, ok := impl.SetOf(list); got != want || ok != wantOk {
		t.Fatalf("SetOf(%v) = %d, %v, want %d, %v", list, got, ok, want, wantOk)
	}
}

func checkElements(t *testing.T, set int, want []int) {
	t.Helper()
	if got := impl.ListOf(set); !slices.Equal(got, want) {
		t.Fatalf("ListOf(%d) = %v, want %v", set, got, want)
	}
	if got := impl.CountOf(set); got != len(want) {
		t.Fatalf("CountOf(%d) = %d, want %d", set, got, len(want))
	}
}

func checkIsSubset(t *testing.T, a, b int, want bool) {
	t.Helper()
	if got := impl.IsSubset(a, b); got != want {
		t.Fatalf("IsSubset(%d, %d) = %v", a, b, got)
	}
}

func TestSetOf(t *testing.T) {
	cases := []struct {
		list []int
		want int
	}{
		{nil, 0},
		{[]int{}, 0},
		{[]int{0}, 1},
		{[]int{1}, 2},
		{[]int{14}, 16384},
		{[]int{15}, 32768},
		{[]int{0, 0}, 1},
		{[]int{15, 15, 15}, 32768},
		{[]int{0, 15}, 32769},
		{[]int{15, 0}, 32769},
		{[]int{3, 0, 3}, 9},
		{[]int{1, 2, 1, 2}, 6},
		{[]int{0, 1, 2, 3, 4, 5, 6, 7, 8, 9, 10, 11, 12, 13, 14, 15}, greatestSet},
		{[]int{15, 14, 13, 12, 11, 10, 9, 8, 7, 6, 5, 4, 3, 2, 1, 0, 15}, greatestSet},
	}
	for _, c := range cases {
		checkSetOf(t, c.list, c.want, true)
	}
}

func TestSetOfRejectsOtherNumbers(t *testing.T) {
	for _, n := range invalidNumbers() {
		for _, list := range [][]int{{n}, {n, 0}, {0, n}, {3, n, 5}, {15, 15, n}, {n, n}, {n, -1, 16}} {
			checkSetOf(t, list, 0, false)
		}
	}
	for n := -100; n <= 100; n++ {
		valid := n >= 0 && n <= 15
		want := 0
		if valid {
			want = int(math.Exp2(float64(n)))
		}
		checkSetOf(t, []int{n}, want, valid)
	}
}

func TestSetOfLongList(t *testing.T) {
	list := make([]int, 100000)
	for i := range list {
		list[i] = 2 * (i % 8)
	}
	checkSetOf(t, list, 1+4+16+64+256+1024+4096+16384, true)
	for _, place := range []int{0, 15, 16, 50000, len(list) - 1} {
		changed := slices.Clone(list)
		changed[place] = 16
		checkSetOf(t, changed, 0, false)
	}
}

func TestElementsOfSets(t *testing.T) {
	cases := []struct {
		set  int
		want []int
	}{
		{0, nil},
		{1, []int{0}},
		{2, []int{1}},
		{3, []int{0, 1}},
		{9, []int{0, 3}},
		{32768, []int{15}},
		{32769, []int{0, 15}},
		{43690, []int{1, 3, 5, 7, 9, 11, 13, 15}},
		{65534, []int{1, 2, 3, 4, 5, 6, 7, 8, 9, 10, 11, 12, 13, 14, 15}},
		{greatestSet, []int{0, 1, 2, 3, 4, 5, 6, 7, 8, 9, 10, 11, 12, 13, 14, 15}},
	}
	for _, c := range cases {
		checkElements(t, c.set, c.want)
	}
}

func TestElementsOfInvalidSets(t *testing.T) {
	for _, set := range invalidSets() {
		checkElements(t, set, nil)
	}
}

func TestIsSubset(t *testing.T) {
	cases := []struct {
		a, b int
		want bool
	}{
		{0, 0, true},
		{0, 1, true},
		{1, 0, false},
		{1, 1, true},
		{1, 9, true},
		{8, 9, true},
		{9, 9, true},
		{9, 8, false},
		{2, 9, false},
		{3, 9, false},
		{9, 11, true},
		{32768, 32767, false},
		{32767, 32768, false},
		{32768, 32769, true},
		{0, greatestSet, true},
		{greatestSet, greatestSet, true},
		{greatestSet, 65534, false},
		{65534, greatestSet, true},
	}
	for _, c := range cases {
		checkIsSubset(t, c.a, c.b, c.want)
	}
}

func TestIsSubsetOfInvalidSets(t *testing.T) {
	for _, x := range invalidSets() {
		checkIsSubset(t, x, x, false)
		for _, valid := range []int{0, 1, 9, greatestSet} {
			checkIsSubset(t, x, valid, false)
			checkIsSubset(t, valid, x, false)
		}
	}
	for _, a := range invalidSets() {
		for _, b := range invalidSets() {
			checkIsSubset(t, a, b, false)
		}
	}
}

// containsAll reports whether each element of part is one of whole.
func containsAll(whole, part []int) bool {
	for _, n := range part {
		if !slices.Contains(whole, n) {
			return false
		}
	}
	return true
}

func TestIsSubsetComparesElements(t *testing.T) {
	lists := make([][]int, 256)
	for i := range lists {
		lists[i] = elementsByDivision(i)
	}
	for a := range lists {
		for b := range lists {
			want := containsAll(lists[b], lists[a])
			// The pairs are moved, so that every element from 0 to 15 takes part.
			checkIsSubset(t, a, b, want)
			checkIsSubset(t, a*16, b*16, want)
			checkIsSubset(t, a*256, b*256, want)
		}
	}
	source := rand.New(rand.NewSource(2))
	for range 100000 {
		a, b := source.Intn(greatestSet+1), source.Intn(greatestSet+1)
		checkIsSubset(t, a, b, containsAll(elementsByDivision(b), elementsByDivision(a)))
		checkIsSubset(t, a&b, b, true)
		checkIsSubset(t, a, a|b, true)
	}
}

func TestEverySetIsDeterminedByItsElements(t *testing.T) {
	for set := range greatestSet + 1 {
		list := elementsByDivision(set)
		checkElements(t, set, list)
		checkSetOf(t, impl.ListOf(set), set, true)
		slices.Reverse(list)
		checkSetOf(t, append(list, list...), set, true)
	}
}

func TestSetOfDependsOnlyOnWhichNumbersOccur(t *testing.T) {
	source := rand.New(rand.NewSource(3))
	for range 20000 {
		list := make([]int, source.Intn(40))
		for i := range list {
			list[i] = source.Intn(16)
		}
		set, ok := impl.SetOf(list)
		if !ok {
			t.Fatalf("SetOf(%v) is false", list)
		}
		different := slices.Clone(list)
		slices.Sort(different)
		checkElements(t, set, slices.Compact(different))
		source.Shuffle(len(list), func(i, j int) { list[i], list[j] = list[j], list[i] })
		checkSetOf(t, list, set, true)
	}
}

// Two sets are equal exactly if each is a subset of the other one, and exactly if their lists are equal.
func TestEqualSetsHaveEqualElements(t *testing.T) {
	source := rand.New(rand.NewSource(4))
	for range 100000 {
		a := source.Intn(greatestSet + 1)
		b := a ^ 1<<source.Intn(16)&(source.Intn(2)*greatestSet)
		if both := impl.IsSubset(a, b) && impl.IsSubset(b, a); both != (a == b) {
			t.Fatalf("IsSubset of %d and %d in both orders is %v", a, b, both)
		}
		if same := slices.Equal(impl.ListOf(a), impl.ListOf(b)); same != (a == b) {
			t.Fatalf("ListOf(%d) and ListOf(%d) are equal: %v", a, b, same)
		}
	}
}

func TestSetOfLeavesItsArgument(t *testing.T) {
	backing := []int{7, 3, 3, 0, 99, -1}
	checkSetOf(t, backing[:4], 137, true)
	checkSetOf(t, backing[:5], 0, false)
	if !slices.Equal(backing, []int{7, 3, 3, 0, 99, -1}) {
		t.Error(backing)
	}
}

func TestListOfReturnsNewSlices(t *testing.T) {
	for _, set := range []int{0, 1, 9, greatestSet, -1, 65536} {
		want := []int{}
		if set >= 0 && set <= greatestSet {
			want = elementsByDivision(set)
		}
		first := impl.ListOf(set)
		second := impl.ListOf(set)
		whole := first[:cap(first)]
		for i := range whole {
			whole[i] = -7
		}
		if !slices.Equal(second, want) {
			t.Errorf("ListOf(%d) = %v after a change to another result", set, second)
		}
		checkElements(t, set, want)
	}
}
