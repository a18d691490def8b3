package tests

import (
	"cmp"
	"encoding/binary"
	"math"
	"math/rand"
	"reflect"
	"runtime/debug"
	"slices"
	"strings"
	"testing"

	"loop.example/g03107/impl"
)

func variableOf(name string, sort int) impl.Term {
	return impl.Term{Op: -1, Name: name, Sort: sort}
}

func apply(op int, args ...impl.Term) impl.Term {
	return impl.Term{Op: op, Args: args}
}

// partsByText gives t and all its parts, a part before its own parts, from left to right.
func partsByText(t impl.Term) []impl.Term {
	parts := []impl.Term{t}
	for _, arg := range t.Args {
		parts = append(parts, partsByText(arg)...)
	}
	return parts
}

func depthByText(t impl.Term) int {
	deepest := 0
	for _, arg := range t.Args {
		deepest = max(deepest, depthByText(arg))
	}
	return 1 + deepest
}

// orderKey gives a string for each tree; the order of these strings, byte by byte, is that of the trees.
func orderKey(t impl.Term) string {
	key := binary.BigEndian.AppendUint64(nil, uint64(t.Op)^1<<63)
	// The end of a name is less than what stands for a byte 0 in it, and this is less than any other byte.
	key = append(key, strings.ReplaceAll(t.Name, "\x00", "\x00\xff")+"\x00\x00"...)
	key = binary.BigEndian.AppendUint64(key, uint64(t.Sort)^1<<63)
	for _, arg := range t.Args {
		key = append(key, "\x01"+orderKey(arg)...)
	}
	return string(append(key, 0))
}

func compareKeys(a, b impl.Term) int {
	return strings.Compare(orderKey(a), orderKey(b))
}

// keysOf gives the keys of some terms in their order.
func keysOf(list []impl.Term) []string {
	keys := []string{}
	for _, t := range list {
		keys = append(keys, orderKey(t))
	}
	return keys
}

// variableKeys gives the keys of the different variables in ascending order, by the text.
func variableKeys(t impl.Term) []string {
	keys := []string{}
	if t.Op == -1 {
		return append(keys, orderKey(variableOf(t.Name, t.Sort)))
	}
	for _, arg := range t.Args {
		keys = append(keys, variableKeys(arg)...)
	}
	slices.Sort(keys)
	return slices.Compact(keys)
}

// checkTerm checks the functions of one term.
func checkTerm(t *testing.T, x impl.Term) {
	t.Helper()
	if got, want := impl.SizeOfTerm(x), len(partsByText(x)); got != want {
		t.Fatalf("SizeOfTerm(%v) = %d, want %d", x, got, want)
	}
	if got, want := impl.DepthOfTerm(x), depthByText(x); got != want {
		t.Fatalf("DepthOfTerm(%v) = %d, want %d", x, got, want)
	}
	variables, want := impl.VariablesOf(x), variableKeys(x)
	if !slices.Equal(keysOf(variables), want) {
		t.Fatalf("VariablesOf(%v) = %v", x, variables)
	}
	if got := impl.IsGround(x); got != (len(want) == 0) {
		t.Fatalf("IsGround(%v) = %v", x, got)
	}
}

// checkCompare checks the comparison of two terms in both directions.
func checkCompare(t *testing.T, a, b impl.Term, want int) {
	t.Helper()
	if got := impl.CompareTerms(a, b); got != want {
		t.Fatalf("CompareTerms(%v, %v) = %d, want %d", a, b, got, want)
	}
	if got := impl.CompareTerms(b, a); got != -want {
		t.Fatalf("CompareTerms(%v, %v) = %d, want %d", b, a, got, -want)
	}
}

func checkOccurs(t *testing.T, v, x impl.Term, want bool) {
	t.Helper()
	if got := impl.OccursIn(v, x); got != want {
		t.Fatalf("OccursIn(%v, %v) = %v", v, x, got)
	}
}

// checkSorted checks SortTerms and returns what it gives.
func checkSorted(t *testing.T, list []impl.Term) []impl.Term {
	t.Helper()
	want := keysOf(list)
	slices.Sort(want)
	sorted := impl.SortTerms(list)
	if !slices.Equal(keysOf(sorted), want) {
		t.Fatalf("SortTerms(%v) = %v", list, sorted)
	}
	return sorted
}

// checkAscending checks that the order of a list is the order of the terms.
func checkAscending(t *testing.T, list []impl.Term) {
	t.Helper()
	for i, a := range list {
		for j, b := range list[:i+1] {
			checkCompare(t, a, b, cmp.Compare(i, j))
		}
	}
}

func TestTermConstants(t *testing.T) {
	if impl.MaxTerm != 60 || impl.MaxWidth != 7 || impl.MaxDepth != 20 {
		t.Error(impl.MaxTerm, impl.MaxWidth, impl.MaxDepth)
	}
}

func TestSizeAndDepth(t *testing.T) {
	x := variableOf("x", 0)
	cases := []struct {
		term        impl.Term
		size, depth int
	}{
		{impl.Term{}, 1, 1},
		{x, 1, 1},
		{apply(3), 1, 1},
		{impl.Term{Op: 3, Args: []impl.Term{}}, 1, 1},
		{apply(3, x), 2, 2},
		{apply(3, x, x), 3, 2},
		{apply(3, x, x, x, x), 5, 2},
		{apply(3, apply(3, x)), 3, 3},
		{apply(3, apply(3, x), x), 4, 3},
		{apply(3, x, apply(3, x)), 4, 3},
		{apply(3, apply(0), apply(1, apply(0), apply(1, apply(2))), apply(0)), 7, 4},
		{apply(3, apply(1, apply(2, apply(0))), apply(1, apply(2))), 6, 4},
		// All trees have a size and a depth, also those that can never be terms.
		{apply(-7, apply(math.MinInt), apply(math.MaxInt, x)), 4, 3},
		{impl.Term{Op: -1, Name: "x", Args: []impl.Term{x, apply(1, x)}}, 4, 3},
		{apply(1, impl.Term{Op: -1, Args: []impl.Term{apply(1, x)}}), 4, 4},
	}
	for _, c := range cases {
		if size, depth := impl.SizeOfTerm(c.term), impl.DepthOfTerm(c.term); size != c.size || depth != c.depth {
			t.Errorf("%v has the size %d and the depth %d, want %d and %d", c.term, size, depth, c.size, c.depth)
		}
	}
}

func TestCompareTermsInStatedOrder(t *testing.T) {
	a, b, x := apply(0), apply(1), variableOf("x", 0)
	checkAscending(t, []impl.Term{
		// Op decides before everything else.
		{Op: math.MinInt, Name: "z", Sort: 9, Args: []impl.Term{b, b}},
		{Op: math.MinInt + 1},
		{Op: -2, Name: "z", Sort: 5},
		// Then Name does.
		{Op: -1, Name: "", Sort: math.MaxInt, Args: []impl.Term{b}},
		{Op: -1, Name: "X", Sort: 3},
		{Op: -1, Name: "a", Sort: 2, Args: []impl.Term{b, b}},
		// Then Sort does.
		{Op: -1, Name: "x", Sort: math.MinInt, Args: []impl.Term{b, b}},
		{Op: -1, Name: "x", Sort: -1, Args: []impl.Term{b}},
		{Op: -1, Name: "x", Sort: 0},
		// Then Args do, a proper prefix first.
		{Op: -1, Name: "x", Sort: 0, Args: []impl.Term{x}},
		{Op: -1, Name: "x", Sort: 0, Args: []impl.Term{a}},
		{Op: -1, Name: "x", Sort: 1},
		{Op: -1, Name: "x", Sort: math.MaxInt},
		{Op: -1, Name: "x1", Sort: 0},
		{Op: 0},
		apply(0, x),
		apply(0, x, x),
		apply(0, x, x, x),
		apply(0, x, a),
		apply(0, a),
		apply(0, a, x),
		apply(0, a, a),
		apply(0, a, b),
		apply(0, apply(0, a)),
		apply(0, apply(0, a), a),
		apply(0, apply(0, a, a)),
		apply(0, apply(0, b)),
		apply(0, b),
		apply(0, b, x),
		apply(0, apply(1, x), b),
		apply(0, apply(1, apply(2, a), b), x),
		apply(0, apply(1, apply(2, a), b), a),
		apply(0, apply(1, apply(2, a, x)), a),
		apply(0, apply(1, apply(2, b), a), a),
		{Op: 0, Sort: 1},
		{Op: 0, Name: "a"},
		{Op: 1},
		{Op: 1, Args: []impl.Term{a, b}},
		{Op: math.MaxInt - 1, Name: "z"},
		{Op: math.MaxInt},
	})
}

func TestCompareTermsByTheBytesOfNames(t *testing.T) {
	names := []string{"", "\x00", "\x00\x00", " ", "1", "10", "2", "A", "AB", "Z", "a", "a\x00", "a\x00b", "aB", "ab", "ab ", "abc", "b", "x", "x1", "x10", "x2", "z", "\x7f", "\x80", "é", "\xff", "\xffa"}
	for _, sort := range []int{0, 3} {
		list, applied := []impl.Term{}, []impl.Term{}
		for _, name := range names {
			list = append(list, variableOf(name, sort))
			applied = append(applied, apply(4, impl.Term{Op: 2, Name: name, Sort: -sort}, apply(1)))
		}
		checkAscending(t, list)
		checkAscending(t, applied)
	}
	long := strings.Repeat("a", 1000000)
	checkAscending(t, []impl.Term{variableOf(long[1:], 0), variableOf(long, 0), variableOf(long+"b", 0), variableOf(long[1:]+"b", 0)})
}

// A nil slice and an empty one are the same list of Args.
func TestCompareTermsWithEmptyArgs(t *testing.T) {
	for _, op := range []int{-2, -1, 0, 5} {
		without, empty := impl.Term{Op: op, Name: "x"}, impl.Term{Op: op, Name: "x", Args: []impl.Term{}}
		checkCompare(t, without, empty, 0)
		checkCompare(t, apply(1, without, empty), apply(1, empty, without), 0)
		checkCompare(t, empty, impl.Term{Op: op, Name: "x", Args: []impl.Term{empty}}, -1)
		checkOccurs(t, without, apply(1, apply(2, empty)), true)
		checkOccurs(t, empty, apply(1, apply(2, without)), true)
		checkSorted(t, []impl.Term{empty, apply(1, empty), without, apply(1, without)})
	}
}

func TestVariablesOf(t *testing.T) {
	x, y := variableOf("x", 1), variableOf("y", 0)
	other := variableOf("x", 2)
	inner := impl.Term{Op: -1, Name: "x", Sort: 1, Args: []impl.Term{y, apply(1, other)}}
	cases := []struct {
		term impl.Term
		want []impl.Term
	}{
		{impl.Term{}, nil},
		{apply(3, apply(0), apply(1, apply(0))), nil},
		{x, []impl.Term{x}},
		{apply(3, x, x), []impl.Term{x}},
		{apply(3, apply(3, apply(3, x))), []impl.Term{x}},
		{apply(3, y, x), []impl.Term{x, y}},
		{apply(3, apply(3, y, apply(0)), apply(3, apply(3, x), y)), []impl.Term{x, y}},
		// Variables of the same name are different if their sorts are.
		{apply(3, other, x), []impl.Term{x, other}},
		{apply(3, other, x, other, y, x), []impl.Term{x, other, y}},
		{apply(3, variableOf("x", 10), variableOf("x", 9), variableOf("x", -1), variableOf("x", 9)), []impl.Term{variableOf("x", -1), variableOf("x", 9), variableOf("x", 10)}},
		{apply(3, variableOf("y", 0), variableOf("x", 3)), []impl.Term{variableOf("x", 3), variableOf("y", 0)}},
		// The Name is compared exactly, and every Name and Sort is taken.
		{apply(3, variableOf("x", 0), variableOf("X", 0), variableOf("x1", 0), variableOf("", 0)), []impl.Term{variableOf("", 0), variableOf("X", 0), variableOf("x", 0), variableOf("x1", 0)}},
		{variableOf("no name", math.MinInt), []impl.Term{variableOf("no name", math.MinInt)}},
		// The Args of a variable are not looked at.
		{inner, []impl.Term{x}},
		{apply(3, inner, x), []impl.Term{x}},
		{apply(3, x, inner), []impl.Term{x}},
		{apply(3, inner, variableOf("z", 0)), []impl.Term{x, variableOf("z", 0)}},
		{apply(3, inner, apply(1, other)), []impl.Term{x, other}},
		// Only the Op -1 makes a variable, not the Name or the Sort.
		{impl.Term{Op: 0, Name: "x", Sort: 1}, nil},
		{impl.Term{Op: -2, Name: "x", Sort: 1}, nil},
		{impl.Term{Op: math.MinInt, Name: "x", Args: []impl.Term{{Op: math.MaxInt, Name: "y", Sort: 1}}}, nil},
		{impl.Term{Op: -2, Name: "x", Sort: 1, Args: []impl.Term{y}}, []impl.Term{y}},
	}
	for _, c := range cases {
		got := impl.VariablesOf(c.term)
		same := len(got) == len(c.want)
		for i := range min(len(got), len(c.want)) {
			same = same && got[i].Op == -1 && got[i].Name == c.want[i].Name && got[i].Sort == c.want[i].Sort && len(got[i].Args) == 0
		}
		if !same {
			t.Errorf("VariablesOf(%v) = %v, want %v", c.term, got, c.want)
		}
		if impl.IsGround(c.term) != (len(c.want) == 0) {
			t.Errorf("IsGround(%v) = %v", c.term, impl.IsGround(c.term))
		}
		for _, v := range c.want {
			found := slices.ContainsFunc(partsByText(c.term), func(part impl.Term) bool { return compareKeys(part, v) == 0 })
			checkOccurs(t, v, c.term, found)
		}
	}
}

func TestOccursIn(t *testing.T) {
	x, a := variableOf("x", 1), apply(0)
	inner := impl.Term{Op: -1, Name: "x", Sort: 2, Args: []impl.Term{a, apply(6, x)}}
	f := apply(5, x, apply(4, a, apply(3)))
	cases := []struct {
		v, t impl.Term
		want bool
	}{
		{x, x, true},
		{x, f, true},
		{x, apply(2, f), true},
		{variableOf("x", 2), f, false},
		{variableOf("x", 0), f, false},
		{variableOf("y", 1), f, false},
		{variableOf("", 1), f, false},
		{variableOf("x", 2), apply(5, x, variableOf("x", 2)), true},
		// Any tree can occur, not only a variable.
		{f, f, true},
		{apply(3), f, true},
		{a, f, true},
		{apply(4, a, apply(3)), f, true},
		{apply(4, apply(3), a), f, false},
		{apply(4, a), f, false},
		{apply(4, a, apply(3), a), f, false},
		{apply(4), f, false},
		{apply(5, x), f, false},
		{f, apply(4, a, apply(3)), false},
		{f, x, false},
		{apply(5, f), f, false},
		{impl.Term{Op: 3, Name: "x"}, f, false},
		{impl.Term{Op: 3, Sort: 1}, f, false},
		{impl.Term{}, impl.Term{}, true},
		{impl.Term{}, f, true},
		{impl.Term{}, apply(1), false},
		// What is in the Args of a variable is a part as well.
		{inner, inner, true},
		{variableOf("x", 2), inner, false},
		{inner, variableOf("x", 2), false},
		{x, inner, true},
		{a, apply(1, inner), true},
		{apply(6, x), apply(1, a, inner), true},
		{apply(6), inner, false},
	}
	for _, c := range cases {
		checkOccurs(t, c.v, c.t, c.want)
	}
}

func TestSortTerms(t *testing.T) {
	for _, list := range [][]impl.Term{nil, {}, make([]impl.Term, 5)[:0]} {
		if got := impl.SortTerms(list); len(got) != 0 {
			t.Fatal(got)
		}
	}
	x, y, a := variableOf("x", 1), variableOf("y", 0), apply(0)
	list := []impl.Term{apply(1, a), apply(1), a, y, x, variableOf("x", 0), apply(-2, y), apply(0, a, x), a, apply(0, a), x, a}
	for i := range list {
		checkSorted(t, list[i:])
		checkSorted(t, list[:i])
		for j := range list {
			checkSorted(t, []impl.Term{list[i], list[j]})
			checkSorted(t, []impl.Term{apply(9, list[i], list[j]), apply(9, list[j], list[i])})
		}
	}
	// Repeated elements are kept.
	if got := impl.SortTerms(slices.Repeat(list, 50)); len(got) != 600 {
		t.Error(len(got))
	}
	same := impl.SortTerms(slices.Repeat([]impl.Term{apply(1, x)}, 100))
	if len(same) != 100 || slices.ContainsFunc(same, func(s impl.Term) bool { return compareKeys(s, apply(1, x)) != 0 }) {
		t.Error(same)
	}
}

// chainOf gives depth applications of an operator inside of each other, around a leaf.
func chainOf(op, depth int, leaf impl.Term) impl.Term {
	for range depth {
		leaf = apply(op, leaf)
	}
	return leaf
}

// The limits of terms do not matter to functions that accept all trees.
func TestTreesAtTheLimits(t *testing.T) {
	x := variableOf("x", 1)
	for _, count := range []int{1, 2, 6, 7, 8, 19, 20, 21, 22, 59, 60, 61, 62, 300} {
		chain, wide := chainOf(2, count-1, x), apply(2, slices.Repeat([]impl.Term{x}, count-1)...)
		both := apply(3, slices.Repeat([]impl.Term{chainOf(2, 3, x), apply(1)}, count)...)
		for _, term := range []impl.Term{chain, wide, both} {
			checkTerm(t, term)
			checkOccurs(t, x, term, len(variableKeys(term)) > 0)
			checkOccurs(t, term, term, true)
			checkCompare(t, term, apply(2, term), compareKeys(term, apply(2, term)))
		}
		if size, depth := impl.SizeOfTerm(chain), impl.DepthOfTerm(chain); size != count || depth != count {
			t.Error(count, size, depth)
		}
		longer := apply(2, slices.Repeat([]impl.Term{x}, count)...)
		checkCompare(t, wide, longer, -1)
		checkCompare(t, chain, chainOf(2, count-1, variableOf("x", 2)), -1)
		checkCompare(t, chainOf(2, count, x), chain, 1)
		checkSorted(t, []impl.Term{longer, both, chain, wide, apply(2, chain), chain})
	}
}

// Deep trees need no deep calls, from whose end no function could recover; little room for calls makes the trees here deep enough.
func TestDeepTrees(t *testing.T) {
	const depth = 300000
	defer debug.SetMaxStack(debug.SetMaxStack(1 << 22))
	x, y := variableOf("x", 0), variableOf("y", 0)
	first, second := chainOf(2, depth, x), chainOf(2, depth, y)
	for outer, term := range []impl.Term{first, apply(3, apply(0), first, apply(0))} {
		if size, deep := impl.SizeOfTerm(term), impl.DepthOfTerm(term); size != depth+1+3*outer || deep != depth+1+outer {
			t.Error(size, deep)
		}
		if list := impl.VariablesOf(term); len(list) != 1 || list[0].Name != "x" || impl.IsGround(term) {
			t.Error(list)
		}
		if !impl.OccursIn(x, term) || impl.OccursIn(y, term) || !impl.OccursIn(first, term) || impl.OccursIn(apply(9, second), term) {
			t.Error("OccursIn of a deep tree")
		}
	}
	if impl.CompareTerms(first, second) != -1 || impl.CompareTerms(second, first) != 1 || impl.CompareTerms(first, first) != 0 {
		t.Error("CompareTerms of deep trees")
	}
	if impl.CompareTerms(first, first.Args[0]) != 1 || impl.CompareTerms(apply(1, first, y), apply(1, first)) != 1 || impl.CompareTerms(apply(1, first, x), apply(1, first, y)) != -1 {
		t.Error("CompareTerms behind deep trees")
	}
	sorted := impl.SortTerms([]impl.Term{second, first})
	if len(sorted) != 2 || impl.CompareTerms(sorted[0], first) != 0 || impl.CompareTerms(sorted[1], second) != 0 || &sorted[0].Args[0] == &first.Args[0] {
		t.Error("SortTerms of deep trees")
	}
}

func TestWideTrees(t *testing.T) {
	const width = 200000
	args := make([]impl.Term, width)
	for i := range args {
		args[i] = variableOf("x", width-i/2)
	}
	wide := apply(1, args...)
	if size, depth := impl.SizeOfTerm(wide), impl.DepthOfTerm(wide); size != width+1 || depth != 2 {
		t.Error(size, depth)
	}
	list := impl.VariablesOf(wide)
	if len(list) != width/2 || list[0].Sort != width/2+1 || list[len(list)-1].Sort != width || !slices.IsSortedFunc(list, impl.CompareTerms) {
		t.Error(len(list))
	}
	if impl.CompareTerms(wide, apply(1, args[:width-1]...)) != 1 || impl.CompareTerms(wide, wide) != 0 || !impl.OccursIn(args[width-1], wide) || impl.OccursIn(variableOf("x", 0), wide) {
		t.Error("CompareTerms or OccursIn of a wide tree")
	}
	if sorted := impl.SortTerms(args); len(sorted) != width || sorted[0].Sort != width/2+1 || sorted[1].Sort != width/2+1 || sorted[2].Sort != width/2+2 {
		t.Error(len(sorted))
	}
}

// A full tree has its nodes at all places where a walk can turn.
func TestFullTrees(t *testing.T) {
	full := variableOf("x", 7)
	for depth := 1; depth <= 17; depth++ {
		if size, deep := impl.SizeOfTerm(full), impl.DepthOfTerm(full); size != 1<<depth-1 || deep != depth {
			t.Error(size, deep)
		}
		if list := impl.VariablesOf(full); len(list) != 1 || list[0].Sort != 7 {
			t.Error(list)
		}
		smaller, bigger := apply(1, full, full), apply(1, full, apply(1, full))
		if impl.CompareTerms(smaller, bigger) != -1 || impl.CompareTerms(bigger, smaller) != 1 {
			t.Error("CompareTerms of full trees of the depth", depth)
		}
		if sorted := impl.SortTerms([]impl.Term{bigger, smaller}); impl.CompareTerms(sorted[0], smaller) != 0 || impl.CompareTerms(sorted[1], bigger) != 0 {
			t.Error("SortTerms of full trees of the depth", depth)
		}
		full = smaller
	}
}

// fewTerms gives trees that differ in each of the ways in which trees can differ.
func fewTerms() []impl.Term {
	leaves := []impl.Term{}
	for _, op := range []int{-2, -1, 0, 1} {
		for _, name := range []string{"", "x", "xy"} {
			for _, sort := range []int{-1, 0, 2} {
				leaves = append(leaves, impl.Term{Op: op, Name: name, Sort: sort})
			}
		}
	}
	terms := slices.Clone(leaves)
	small := []impl.Term{leaves[1], leaves[12], leaves[13], leaves[18], leaves[27], apply(0, leaves[13]), apply(0, leaves[13], leaves[18]), apply(0, leaves[18], leaves[13])}
	for _, head := range []impl.Term{leaves[10], leaves[13], leaves[18], leaves[19], leaves[22]} {
		for _, a := range small {
			terms = append(terms, withArgs(head, a))
			for _, b := range small {
				terms = append(terms, withArgs(head, a, b))
			}
		}
	}
	for _, a := range small {
		for _, b := range small {
			terms = append(terms, apply(1, a, apply(0, b, a), b), apply(1, apply(1, apply(1, a), b)))
		}
	}
	return terms
}

func withArgs(head impl.Term, args ...impl.Term) impl.Term {
	head.Args = args
	return head
}

// Of two terms, exactly one is less, or they are the same tree, and what is less than a less one is less.
func TestTermsAreTotallyOrdered(t *testing.T) {
	terms := fewTerms()
	slices.SortFunc(terms, compareKeys)
	terms = slices.CompactFunc(terms, func(a, b impl.Term) bool { return orderKey(a) == orderKey(b) })
	if len(terms) < 500 {
		t.Fatal("only", len(terms), "terms")
	}
	// A list in which the order of any two is that of their places is a total order.
	checkAscending(t, terms)
	for _, term := range terms {
		checkTerm(t, term)
		checkTerm(t, apply(4, term, term))
	}
	source := rand.New(rand.NewSource(14))
	for range 20 {
		shuffled := slices.Clone(terms)
		source.Shuffle(len(shuffled), func(i, j int) { shuffled[i], shuffled[j] = shuffled[j], shuffled[i] })
		if !slices.Equal(keysOf(impl.SortTerms(shuffled)), keysOf(terms)) {
			t.Fatal("SortTerms depends on the order of the list")
		}
	}
}

// The order of two terms is also that of the terms around them, whatever stands behind.
func TestOrderIsKeptInArgs(t *testing.T) {
	terms := fewTerms()
	source := rand.New(rand.NewSource(15))
	for range 20000 {
		a, b, c, d := terms[source.Intn(len(terms))], terms[source.Intn(len(terms))], terms[source.Intn(len(terms))], terms[source.Intn(len(terms))]
		order := compareKeys(a, b)
		checkCompare(t, apply(2, c, a), apply(2, c, b), order)
		checkCompare(t, apply(2, apply(3, c, a), c), apply(2, apply(3, c, b), c), order)
		checkCompare(t, apply(2, a), apply(2, a, c), -1)
		if order != 0 {
			checkCompare(t, apply(2, a, c), apply(2, b, d), order)
			checkCompare(t, apply(2, a, c, d), apply(2, b), order)
			checkCompare(t, apply(2, apply(3, a), c), apply(2, apply(3, b), d), order)
		}
	}
}

func TestEveryPartOccurs(t *testing.T) {
	terms := fewTerms()
	source := rand.New(rand.NewSource(16))
	for i, term := range terms {
		parts := keysOf(partsByText(term))
		for _, part := range partsByText(term) {
			checkOccurs(t, part, term, true)
			checkOccurs(t, part, apply(9, apply(8), term), true)
		}
		for range 200 {
			other := terms[source.Intn(len(terms))]
			checkOccurs(t, other, term, slices.Contains(parts, orderKey(other)))
		}
		checkOccurs(t, apply(9, term), terms[i], false)
	}
}

// randomTree gives a tree of at most that depth, parts of which may occur several times and share memory.
func randomTree(source *rand.Rand, depth int) impl.Term {
	term := impl.Term{Op: source.Intn(4) - 1, Sort: source.Intn(2)}
	if term.Op == -1 || source.Intn(8) == 0 {
		term.Name = []string{"x", "y", "xy"}[source.Intn(3)]
	}
	if depth == 1 || term.Op == -1 && source.Intn(8) > 0 {
		return term
	}
	for range source.Intn(4) {
		term.Args = append(term.Args, randomTree(source, depth-1))
		if source.Intn(4) == 0 {
			term.Args = append(term.Args, term.Args[0])
		}
	}
	return term
}

func TestRandomTrees(t *testing.T) {
	source := rand.New(rand.NewSource(17))
	deepest := 0
	for range 4000 {
		list := []impl.Term{}
		for range source.Intn(6) {
			list = append(list, randomTree(source, 1+source.Intn(6)))
		}
		checkSorted(t, list)
		for _, a := range list {
			checkTerm(t, a)
			deepest = max(deepest, impl.DepthOfTerm(a))
			parts := partsByText(a)
			checkOccurs(t, parts[source.Intn(len(parts))], a, true)
			for _, b := range list {
				checkCompare(t, a, b, compareKeys(a, b))
				checkOccurs(t, b, a, slices.Contains(keysOf(parts), orderKey(b)))
			}
		}
	}
	if deepest != 6 {
		t.Error("no tree is deeper than", deepest)
	}
}

// wholeOf gives a copy of a list with all that is in the unused capacity of it and of all Args.
func wholeOf(list []impl.Term) []impl.Term {
	if list == nil {
		return nil
	}
	whole := make([]impl.Term, cap(list))
	for i, t := range list[:cap(list)] {
		whole[i] = t
		whole[i].Args = wholeOf(t.Args)
	}
	return whole
}

// nodesIn adds the memory of all nodes of a list, with unused capacity, to seen; it tells whether none was there.
func nodesIn(list []impl.Term, seen map[*impl.Term]bool) bool {
	whole := list[:cap(list)]
	fresh := true
	for i := range whole {
		fresh = fresh && !seen[&whole[i]]
		seen[&whole[i]] = true
		fresh = nodesIn(whole[i].Args, seen) && fresh
	}
	return fresh
}

// roomyTree gives a tree in which Args have unused capacity with something in it.
func roomyTree(source *rand.Rand, depth int) impl.Term {
	term := randomTree(source, 1)
	if depth == 1 {
		return term
	}
	for range 1 + source.Intn(3) {
		term.Args = append(term.Args, roomyTree(source, depth-1))
	}
	term.Args = slices.Insert(term.Args, 0, term.Args[0])
	term.Args = append(term.Args, apply(99), variableOf("spare", 9))
	return withArgs(term, term.Args[:len(term.Args)-2]...)
}

func TestTermsAreLeft(t *testing.T) {
	source := rand.New(rand.NewSource(18))
	for range 300 {
		list := []impl.Term{roomyTree(source, 3), roomyTree(source, 2), roomyTree(source, 4), roomyTree(source, 1), apply(77), variableOf("spare", 7)}
		list[3] = list[source.Intn(3)]
		used := list[:1+source.Intn(4)]
		want := wholeOf(used)
		for _, a := range used {
			checkTerm(t, a)
			for _, b := range used {
				impl.CompareTerms(a, b)
				impl.OccursIn(b, a)
			}
		}
		checkSorted(t, used)
		if got := wholeOf(used); !reflect.DeepEqual(got, want) {
			t.Fatalf("%v, before %v", got, want)
		}
	}
}

// What SortTerms returns is new, also where elements or parts of the list are the same memory.
func TestSortTermsReturnsNewMemory(t *testing.T) {
	source := rand.New(rand.NewSource(19))
	for range 300 {
		tree, other := roomyTree(source, 3), randomTree(source, 4)
		list := []impl.Term{tree, other, tree, apply(1, tree.Args...), apply(1, tree, tree), variableOf("x", 1), impl.Term{Op: -1, Args: tree.Args[:0]}}[:1+source.Intn(7)]
		want := wholeOf(list)
		seen := map[*impl.Term]bool{}
		nodesIn(list, seen)
		first, second := checkSorted(t, list), checkSorted(t, list)
		if !nodesIn(first, seen) || !nodesIn(second, seen) {
			t.Fatalf("SortTerms(%v) shares memory", list)
		}
		spoilTerms(first)
		checkSorted(t, list)
		if !reflect.DeepEqual(wholeOf(list), want) {
			t.Fatalf("%v, before %v", list, want)
		}
	}
}

// spoilTerms changes all nodes of a list, in unused capacity as well.
func spoilTerms(list []impl.Term) {
	whole := list[:cap(list)]
	for i := range whole {
		spoilTerms(whole[i].Args)
		whole[i] = impl.Term{Op: 55, Name: "spoilt"}
	}
}

func TestVariablesOfReturnsNewMemory(t *testing.T) {
	x, y := impl.Term{Op: -1, Name: "x", Args: []impl.Term{apply(3)}}, variableOf("y", 0)
	for _, term := range []impl.Term{x, y, apply(1, y, x), apply(1, apply(2, x, y), y, x, variableOf("x", 4))} {
		want := wholeOf([]impl.Term{term})
		seen := map[*impl.Term]bool{}
		nodesIn(want, seen)
		nodesIn([]impl.Term{term}, seen)
		first, second := impl.VariablesOf(term), impl.VariablesOf(term)
		if !nodesIn(first, seen) || !nodesIn(second, seen) {
			t.Fatalf("VariablesOf(%v) shares memory", term)
		}
		spoilTerms(first)
		checkTerm(t, term)
		if !reflect.DeepEqual(wholeOf([]impl.Term{term}), want) || !slices.Equal(keysOf(second), variableKeys(term)) {
			t.Fatalf("%v, before %v", term, want)
		}
	}
}
