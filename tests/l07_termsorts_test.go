package tests

import (
	"fmt"
	"math/rand"
	"reflect"
	"runtime/debug"
	"slices"
	"strings"
	"testing"

	"loop.example/g03107/impl"
)

// chainSorts gives A below B below C, which are one kind, and D.
func chainSorts() impl.Sorts {
	return sortsOf(4, "AB BC")
}

// flatSorts gives A to G, no two of which are below each other, and H above all of them.
func flatSorts() impl.Sorts {
	return sortsOf(8, "AH BH CH DH EH FH GH")
}

// setOfLetters gives the set of the sorts with these names.
func setOfLetters(names string) int {
	set := 0
	for _, name := range names {
		set |= 1 << (name - 'A')
	}
	return set
}

// overSorts applies an operator to variables that have these sorts and are in ascending order.
func overSorts(op int, names string) impl.Term {
	t := apply(op)
	for i, name := range names {
		t.Args = append(t.Args, variableOf(fmt.Sprint("v", i), int(name-'A')))
	}
	return t
}

// sortsByText answers as the text of the chapter does, sentence by sentence, for a valid signature.
type sortsByText struct {
	formsByText
	below sortRelation
}

func sortTextFor(s impl.Signature) sortsByText {
	return sortsByText{formsByText: textFor(s), below: relationOf(len(s.Sorts.Names), s.Sorts.Subs)}
}

// above gives a set with all sorts above its elements.
func (f sortsByText) above(set int) int {
	result := 0
	for high := range f.kinds {
		for low := range f.kinds {
			if set>>low&1 == 1 && f.below[low][high] {
				result |= 1 << high
			}
		}
	}
	return result
}

// declared gives the sorts of the application of an operator to as many arguments as its arity, in this order.
func (f sortsByText) declared(op int, args ...int) int {
	set := 0
	for _, decl := range f.s.Ops[op].Decls {
		fits := true
		for place, k := range decl.Args {
			fits = fits && args[place]>>k&1 == 1
		}
		if fits {
			set |= 1 << decl.Result
		}
	}
	return f.above(set)
}

// combined puts two arguments together until one is left, in each way in which this is possible.
func (f sortsByText) combined(op int, args []int, known map[string]int) int {
	if len(args) == 1 {
		return args[0]
	}
	if f.s.Ops[op].Comm {
		args = slices.Clone(args)
		slices.Sort(args)
	}
	key := fmt.Sprint(args)
	if set, ok := known[key]; ok {
		return set
	}
	set := 0
	for i := range args {
		for j := range args {
			if j == i+1 || f.s.Ops[op].Comm && j != i {
				rest := slices.Clone(args)
				rest[i] = f.declared(op, args[i], args[j])
				set |= f.combined(op, slices.Delete(rest, j, j+1), known)
			}
		}
	}
	known[key] = set
	return set
}

func (f sortsByText) sortsOf(t impl.Term) int {
	if !f.isTerm(t) {
		return 0
	}
	return f.sortsOfPart(t)
}

func (f sortsByText) sortsOfPart(t impl.Term) int {
	if t.Op == -1 {
		return f.above(1 << t.Sort)
	}
	args := []int{}
	for _, arg := range t.Args {
		args = append(args, f.sortsOfPart(arg))
	}
	switch op := f.s.Ops[t.Op]; {
	case op.Assoc:
		return f.combined(t.Op, args, map[string]int{})
	case op.Comm:
		return f.declared(t.Op, args[0], args[1]) | f.declared(t.Op, args[1], args[0])
	}
	return f.declared(t.Op, args...)
}

// leastOf gives the only least element of a set.
func (f sortsByText) leastOf(set int) (int, bool) {
	list := elementsByDivision(f.below.least(set))
	if len(list) != 1 {
		return 0, false
	}
	return list[0], true
}

// choicesOf gives all lists of sorts for the arguments of an operator.
func (f sortsByText) choicesOf(op int) [][]int {
	choices := [][]int{{}}
	for range len(f.s.Ops[op].Decls[0].Args) {
		longer := [][]int{}
		for _, choice := range choices {
			for k := range f.kinds {
				longer = append(longer, append(slices.Clone(choice), k))
			}
		}
		choices = longer
	}
	return choices
}

func (f sortsByText) isPreregular() bool {
	for op := range f.s.Ops {
		for _, choice := range f.choicesOf(op) {
			results := 0
			for _, decl := range f.s.Ops[op].Decls {
				same, exchanged := true, f.s.Ops[op].Comm
				for i, k := range decl.Args {
					same = same && f.below[choice[i]][k]
					exchanged = exchanged && f.below[choice[1-i%2]][k]
				}
				if same || exchanged {
					results |= 1 << decl.Result
				}
			}
			if len(elementsByDivision(f.below.least(f.above(results)))) > 1 {
				return false
			}
		}
	}
	return true
}

func checkSortsOf(t *testing.T, s impl.Signature, x impl.Term, want, least int, hasLeast bool) {
	t.Helper()
	if got := impl.SortsOf(s, x); got != want {
		t.Fatalf("SortsOf(%+v, %v) = %b, want %b", s, x, got, want)
	}
	if got, ok := impl.LeastSortOf(s, x); got != least || ok != hasLeast {
		t.Fatalf("LeastSortOf(%+v, %v) = %d, %v, want %d, %v", s, x, got, ok, least, hasLeast)
	}
}

// checkNoSort checks the functions for what is no term.
func checkNoSort(t *testing.T, s impl.Signature, x impl.Term) {
	t.Helper()
	checkSortsOf(t, s, x, 0, 0, false)
}

// checkByText checks the functions of a tree against the text, and the promise.
func checkByText(t *testing.T, f sortsByText, x impl.Term) int {
	t.Helper()
	want := f.sortsOf(x)
	least, ok := f.leastOf(want)
	checkSortsOf(t, f.s, x, want, least, ok)
	checkLeastSort(t, f.s, x)
	return want
}

// checkLeastSort checks that all sorts of a tree are above its least sort, or that there is not one least sort.
func checkLeastSort(t *testing.T, s impl.Signature, x impl.Term) {
	t.Helper()
	set := impl.SortsOf(s, x)
	least, ok := impl.LeastSortOf(s, x)
	if ok && set != impl.AboveSort(s.Sorts, least) {
		t.Fatalf("%v has the sorts %b in %+v, but the least sort %d", x, set, s, least)
	}
	if !ok && impl.CountOf(impl.LeastSorts(s.Sorts, set)) == 1 {
		t.Fatalf("%v has no least sort of %b in %+v", x, set, s)
	}
	for _, k := range elementsByDivision(set) {
		if !impl.IsSubset(impl.AboveSort(s.Sorts, k), set) || impl.KindOfSort(s.Sorts, k) != impl.KindOfTerm(s, x) {
			t.Fatalf("%v has the sort %d in %+v, and %b", x, k, s, set)
		}
	}
}

func checkPreregular(t *testing.T, s impl.Signature, want bool) {
	t.Helper()
	if got := impl.IsPreregular(s); got != want {
		t.Fatalf("IsPreregular(%+v) = %v", s, got)
	}
}

// sortCase says which sorts a term has, by their names, and which one is the least one, empty if there is not one.
type sortCase struct{ ops, tree, want, least string }

func checkSortCases(t *testing.T, sorts impl.Sorts, read func(s impl.Signature, text string) impl.Term, cases []sortCase) {
	t.Helper()
	for _, c := range cases {
		s := signatureOf(sorts, c.ops)
		checkSignature(t, s, true)
		x, least := read(s, c.tree), 0
		checkIsTerm(t, s, x, true)
		if c.least != "" {
			least = int(c.least[0] - 'A')
		}
		if got := impl.SortsOf(s, x); got != setOfLetters(c.want) {
			t.Errorf("%s: SortsOf(%s) = %b, want %s", c.ops, c.tree, got, c.want)
		}
		if got, ok := impl.LeastSortOf(s, x); got != least || ok != (c.least != "") {
			t.Errorf("%s: LeastSortOf(%s) = %d, %v, want %q", c.ops, c.tree, got, ok, c.least)
		}
		checkByText(t, sortTextFor(s), x)
	}
}

func TestSortsOf(t *testing.T) {
	ops := "a -A; b -B; c -C; d -D; m -B -A; n -C -C; f A-A B-C; g C-A; p AB-A; h AB-B comm; k ABC-A BAC-B; q DA-D; r A-D"
	cases := []sortCase{}
	for _, line := range strings.Split("x:A ABC; x:B BC; x:C C; x:D D; a ABC; b BC; c C; d D; m ABC; n C; "+
		// One argument: declarations whose argument is above one of its sorts.
		"f(a) ABC; f(m) ABC; f(b) C; f(x:A) ABC; f(x:B) C; f(c) -; f(x:C) -; g(a) ABC; g(x:C) ABC; r(x:A) D; r(b) -; "+
		// An argument without sorts gives none; one that has only higher sorts can.
		"f(f(a)) ABC; f(f(f(a))) ABC; f(f(b)) -; f(f(f(b))) -; g(f(b)) ABC; g(f(c)) -; f(g(c)) ABC; f(g(f(b))) ABC; f(g(f(c))) -; "+
		// Two and three arguments in the given order.
		"p(a,b) ABC; p(a,a) ABC; p(b,a) -; p(b,b) -; p(a,c) -; p(x:A,y:B) ABC; p(y:B,x:A) -; p(f(a),f(b)) -; p(g(f(b)),b) ABC; "+
		"q(d,a) D; q(d,b) -; q(x:D,g(c)) D; q(q(d,a),x:A) D; q(r(a),a) D; q(r(b),a) -; "+
		"k(a,b,c) ABC; k(b,a,c) BC; k(a,a,a) ABC; k(a,a,c) ABC; k(b,b,c) -; k(c,a,b) -; k(a,c,b) -; k(b,a,f(b)) BC; k(b,a,f(c)) -; k(k(b,a,c),k(a,b,c),c) BC; "+
		// A commutative operator takes its arguments in both orders.
		"h(a,b) BC; h(x:A,y:B) BC; h(x:B,y:A) BC; h(a,a) BC; h(b,b) -; h(x:B,y:B) -; h(a,c) -; h(x:C,a) -; h(a,h(a,b)) BC; h(b,f(a)) BC; h(a,f(b)) -; h(a,f(c)) -; h(c,f(c)) -", "; ") {
		tree, want, _ := strings.Cut(line, " ")
		want = strings.Trim(want, "-")
		cases = append(cases, sortCase{ops, tree, want, want[:min(1, len(want))]})
	}
	checkSortCases(t, chainSorts(), treeOf, cases)
}

// A set of sorts need not have one least element.
func TestSeveralLeastSorts(t *testing.T) {
	checkSortCases(t, flatSorts(), treeOf, []sortCase{
		{"a -A", "a", "AH", "A"},
		{"a -H -A", "a", "AH", "A"},
		{"a -H", "a", "H", "H"},
		{"a -A -B", "a", "ABH", ""},
		{"a -B -B", "a", "BH", "B"},
		{"a -A -C -E -G", "a", "ACEGH", ""},
		{"a -A -B; f A-C B-C", "f(a)", "CH", "C"},
		{"a -A -B; f A-C B-D", "f(a)", "CDH", ""},
		{"a -A -B; f A-C C-D", "f(a)", "CH", "C"},
		{"a -A -B; f H-H H-B H-A", "f(f(a))", "ABH", ""},
		{"a -A -B; g AB-C; f A-A", "g(a, a)", "CH", "C"},
		{"a -A -B; g AB-C BA-D", "g(a, a)", "CDH", ""},
		{"a -A -B; g AA-A BB-B", "g(g(a, a), a)", "ABH", ""},
		{"a -A; g AB-C BA-D; b -B", "g(a, b)", "CH", "C"},
		{"a -A; g AB-C BA-D comm; b -B", "g(a, b)", "CDH", ""},
		{"a -A; g AB-C BA-D comm; b -B", "g(a, a)", "", ""},
		{"a -A; g AB-C BA-C comm; b -B", "g(a, b)", "CH", "C"},
		{"f ABC-D CBA-E HHH-F", "f(x:A, x:B, x:C)", "DFH", ""},
		{"f ABC-D CBA-E HHH-H", "f(x:C, x:B, x:A)", "EH", "E"},
		{"f ABC-D CBA-E HHH-H", "f(x:B, x:C, x:A)", "H", "H"},
	})
	// The least sort is the least one of the order, whatever its number is.
	checkSortCases(t, sortsOf(4, "DC CB BA"), treeOf, []sortCase{
		{"a -C", "a", "ABC", "C"},
		{"a -A -D -B", "a", "ABCD", "D"},
		{"a -C; f B-D A-B", "f(a)", "ABCD", "D"},
		{"a -A; f B-D A-B", "f(a)", "AB", "B"},
	})
	// Here A and B are above both C and D.
	checkSortCases(t, sortsOf(5, "CA CB DA DB EC ED"), treeOf, []sortCase{
		{"a -C", "a", "ABC", "C"},
		{"a -A -B", "a", "AB", ""},
		{"a -C -D", "a", "ABCD", ""},
		{"a -C -D; f A-E", "f(a)", "ABCDE", "E"},
		{"a -A -D", "a", "ABD", "D"},
	})
}

// The tree is written as the sorts of the variables that are the Args of the last operator.
func lastOver(s impl.Signature, names string) impl.Term {
	return overSorts(len(s.Ops)-1, names)
}

func TestSortsOfMoreArguments(t *testing.T) {
	checkSortCases(t, flatSorts(), lastOver, []sortCase{
		// Two arguments.
		{"l AB-C assoc", "AB", "CH", "C"},
		{"l AB-C assoc", "BA", "", ""},
		{"l AB-C assoc comm", "AB", "CH", "C"},
		{"l AB-C assoc comm", "BA", "CH", "C"},
		{"l AB-C BA-D assoc", "BA", "DH", "D"},
		{"l AB-C BA-D assoc comm", "BA", "CDH", ""},
		// Three arguments: each of the two ways can be the only one.
		{"l AB-C CB-D assoc", "ABB", "DH", "D"},
		{"l AB-C AC-D assoc", "AAB", "DH", "D"},
		{"l AB-C BB-E CB-D AE-F assoc", "ABB", "DFH", ""},
		{"l AB-C BB-E CB-D AE-D assoc", "ABB", "DH", "D"},
		{"l AB-C assoc", "ABA", "", ""},
		{"l AB-C HH-H assoc", "ABA", "H", "H"},
		{"l AB-C HA-G assoc", "ABA", "GH", "G"},
		// The given order counts, unless the operator is commutative as well.
		{"l AB-C CB-D assoc", "BAB", "", ""},
		{"l AB-C CB-D assoc", "BBA", "", ""},
		{"l AB-C CB-D assoc comm", "ABB", "DH", "D"},
		{"l AB-C CB-D assoc comm", "BAB", "DH", "D"},
		{"l AB-C CB-D assoc comm", "BBA", "DH", "D"},
		{"l AC-D DB-E assoc", "ABC", "", ""},
		{"l AC-D DB-E assoc comm", "ABC", "EH", "E"},
		{"l CA-D BD-E assoc comm", "ABC", "EH", "E"},
		{"l AB-D BC-E AC-F HH-G assoc comm", "ABC", "GH", "G"},
		{"l AB-D DC-E BC-F FA-G assoc comm", "CBA", "EGH", ""},
		// Four arguments: two and two.
		{"l AB-C CC-D assoc", "ABAB", "DH", "D"},
		{"l AB-C CC-D assoc", "AABB", "", ""},
		{"l AB-C CC-D assoc comm", "AABB", "DH", "D"},
		{"l AB-C CC-D assoc comm", "BBAA", "DH", "D"},
		{"l AB-C CC-D assoc comm", "ABBB", "", ""},
		{"l AB-C assoc", "ABAB", "", ""},
		{"l AB-E CD-F EF-G assoc", "ABCD", "GH", "G"},
		{"l AB-E CD-F EF-G assoc", "ACBD", "", ""},
		{"l AB-E CD-F FE-G assoc", "ABCD", "", ""},
		{"l AB-E CD-F FE-G assoc comm", "DACB", "GH", "G"},
		// One, and three the middle of which are put together first or last.
		{"l BC-E ED-F AF-G assoc", "ABCD", "GH", "G"},
		{"l BC-E AE-F FD-G assoc", "ABCD", "GH", "G"},
		{"l CD-E BE-F AF-G assoc", "ABCD", "GH", "G"},
		{"l AB-E EC-F FD-G assoc", "ABCD", "GH", "G"},
		// The same sort again and again, and sorts in turns.
		{"l AA-A assoc", "AAAAAAA", "AH", "A"},
		{"l AA-A assoc comm", "AAAAAAA", "AH", "A"},
		{"l AA-A BB-B assoc comm", "AAAAAAB", "", ""},
		{"l AA-A HH-H assoc", "AAABAAA", "H", "H"},
		{"l AA-B assoc", "AA", "BH", "B"},
		{"l AA-B assoc", "AAA", "", ""},
		{"l AA-B BA-A assoc", "AAAAAA", "BH", "B"},
		{"l AA-B BA-A assoc", "AAAAAAA", "AH", "A"},
		{"l AA-B AB-A assoc comm", "AAAAAAA", "AH", "A"},
		{"l AA-B BB-C assoc", "AAAA", "CH", "C"},
		{"l AA-B BB-C assoc", "AAAAA", "", ""},
		{"l AA-B BB-C CA-D assoc", "AAAAA", "DH", "D"},
		{"l AA-B BB-C CB-D DA-E assoc", "AAAAAAA", "EH", "E"},
		{"l AB-C CC-D DC-E assoc", "ABABAB", "EH", "E"},
		{"l AB-C CC-D DC-E assoc", "ABABBA", "", ""},
		{"l AB-C CC-D DC-E assoc comm", "AAABBB", "EH", "E"},
		{"l AB-C CC-D DC-E EA-F assoc", "ABABABA", "FH", "F"},
		{"l AB-C CC-D DC-E EA-F assoc", "AABABAB", "", ""},
		{"l AB-C CC-D DC-E EA-F assoc comm", "AABABAB", "FH", "F"},
		{"l AB-C CC-D DC-E EA-F assoc comm", "BBBAAAA", "FH", "F"},
		{"l AB-C CC-D DC-E EA-F assoc comm", "BBBBAAA", "", ""},
	})
	// A group has the sorts above as well.
	checkSortCases(t, chainSorts(), lastOver, []sortCase{
		{"l AB-A CC-B assoc", "ABB", "ABC", "A"},
		{"l AB-A CC-B assoc", "ABC", "ABC", "A"},
		{"l AB-A CC-B assoc", "BAC", "BC", "B"},
		{"l AB-A CC-B assoc", "CCC", "BC", "B"},
		{"l AB-A CC-B assoc", "CBA", "BC", "B"},
		{"l AB-A CC-B assoc comm", "CBA", "ABC", "A"},
		{"l AB-A CC-B assoc comm", "BBA", "ABC", "A"},
		{"l AB-A CC-B assoc", "ACCCCCC", "ABC", "A"},
		{"l CA-C assoc", "CAAA", "C", "C"},
		{"l CA-C assoc", "ACAA", "", ""},
		{"l CA-C assoc comm", "ACAA", "C", "C"},
		{"l CA-C assoc comm", "AACC", "", ""},
	})
}

func TestSortsOfArgumentsThatAreNoVariables(t *testing.T) {
	checkSortCases(t, flatSorts(), treeOf, []sortCase{
		// An argument can have several least sorts, and a group uses any of them.
		{"a -A -B; l AB-C CA-D assoc", "l(a, a)", "CH", "C"},
		{"a -A -B; l AB-C CA-D assoc", "l(a, a, a)", "DH", "D"},
		{"a -A -B; l AB-C CA-D CB-E assoc", "l(a, a, a)", "DEH", ""},
		{"a -A; f A-B; l BB-C CA-D assoc", "l(f(a), f(a), a)", "DH", "D"},
		{"a -A; f A-B; l BB-C CA-D assoc", "l(a, f(a), f(a))", "", ""},
		{"a -A; f A-B; l BB-C CA-D assoc comm", "l(a, f(a), f(a))", "DH", "D"},
		// An argument without sorts leaves nothing, wherever it is.
		{"a -A; f B-B; l HH-H AA-A assoc", "l(f(a), a, a)", "", ""},
		{"a -A; f B-B; l HH-H AA-A assoc", "l(a, f(a), a)", "", ""},
		{"a -A; f B-B; l HH-H AA-A assoc comm", "l(a, a, f(a))", "", ""},
		{"a -A; f B-B; l HH-H AA-A comm", "l(a, f(a))", "", ""},
		// Each node has its own groups.
		{"a -A; b -B; l AB-C CA-D assoc; f D-B", "l(a, f(l(a, b, a)), a)", "DH", "D"},
		{"a -A; b -B; l AB-C CA-D assoc; m DB-E EB-F assoc comm", "m(b, b, l(a, b, a))", "FH", "F"},
		// The Unit is not put in to reach a sort, and its sort is not one of the others.
		{"e -A; l AB-C CB-D assoc unit=1", "l(x:B, y:B)", "", ""},
		{"e -A; l AB-C CB-D assoc comm unit=1", "l(x:B, y:B)", "", ""},
		{"e -A; l AB-C CB-D assoc comm unit=1", "l(x:A, y:B, z:B)", "DH", "D"},
		{"e -A; l AB-C unit=1", "l(x:A, y:B)", "CH", "C"},
		{"e -A; l AB-C unit=1", "l(x:B, y:A)", "", ""},
		{"e -A; l AB-C comm unit=1", "l(x:B, y:A)", "CH", "C"},
		{"e -A; l BB-B unit=1", "l(x:A, y:B)", "", ""},
	})
}

// A term of the greatest size with many groups has an answer soon.
func TestSortsOfFullTerms(t *testing.T) {
	s := signatureOf(flatSorts(), "f H-A B-C; m AA-B BA-A HH-H CC-A assoc comm; l AA-B BA-A HH-H CC-A assoc")
	for _, op := range []int{1, 2} {
		inner := apply(0, overSorts(op, "AAAAAAA"))
		x := apply(op, slices.Repeat([]impl.Term{inner}, 6)...)
		for range 4 {
			x.Args[0] = apply(0, x.Args[0])
		}
		form, ok := impl.CanonicalTerm(s, x)
		if !ok || impl.SizeOfTerm(form) != 59 {
			t.Fatal(form, ok)
		}
		for range 200 {
			checkSortsOf(t, s, form, setOfLetters("BH"), 1, true)
		}
		checkByText(t, sortTextFor(s), form)
	}
}

func TestSortsAtTheLimits(t *testing.T) {
	s := signatureOf(chainSorts(), "a -A; b -B; c -C; f A-A; p AA-A; l AA-A assoc; m AA-A assoc comm; u AA-A assoc comm unit=1")
	abc := setOfLetters("ABC")
	check := func(x impl.Term, isTerm bool) {
		t.Helper()
		if isTerm {
			checkSortsOf(t, s, x, abc, 0, true)
			checkLeastSort(t, s, x)
		} else {
			checkNoSort(t, s, x)
		}
	}
	for _, op := range []int{5, 6, 7} {
		for count := range 12 {
			check(overSorts(op, strings.Repeat("A", count)), count >= 2 && count <= impl.MaxWidth)
			check(apply(3, overSorts(op, strings.Repeat("A", count))), count >= 2 && count <= impl.MaxWidth)
		}
	}
	for _, size := range []int{1, 2, 3, 10, 58, 59, 60, 61, 62, 100} {
		check(treeOfSize(size), size <= impl.MaxTerm)
		check(apply(3, treeOfSize(size)), size+1 <= impl.MaxTerm)
	}
	for depth := 2; depth <= 30; depth++ {
		for _, leaf := range []impl.Term{variableOf("x", 0), apply(0)} {
			check(chainOf(3, depth-1, leaf), depth <= impl.MaxDepth)
			check(apply(6, leaf, leaf, chainOf(3, depth-2, leaf)), depth <= impl.MaxDepth)
		}
	}
}

// Each of the greatest number of declarations, arguments, operators and sorts counts.
func TestSortsOfGreatSignatures(t *testing.T) {
	s := impl.Signature{Sorts: flatSorts()}
	for i := range impl.MaxOps {
		s.Ops = append(s.Ops, opOf(fmt.Sprintf("o%d ABC-D", i)))
	}
	checkPreregular(t, s, true)
	for op := range s.Ops {
		for last := range impl.MaxDecls {
			decls := slices.Repeat([]impl.Decl{declOf("GGG-H")}, impl.MaxDecls)
			decls[last] = declOf("ABC-G")
			s.Ops[op].Decls = decls
			checkSortsOf(t, s, overSorts(op, "ABC"), setOfLetters("GH"), 6, true)
			checkSortsOf(t, s, overSorts(op, "GGG"), setOfLetters("H"), 7, true)
			for _, names := range []string{"ABB", "AAC", "BBC", "BAC", "ACB", "CBA", "BCA", "CAB", "HHH", "GGH", "GHG", "HGG"} {
				checkNoSort(t, s, overSorts(op, names))
			}
			checkPreregular(t, s, true)
			decls[last] = declOf("GGG-G")
			checkPreregular(t, s, true)
			decls[last], decls[(last+1)%impl.MaxDecls] = declOf("GGG-A"), declOf("GGG-B")
			checkPreregular(t, s, false)
		}
		s.Ops[op].Decls = []impl.Decl{declOf("ABC-D")}
	}
}

func TestSortsOfNoTerms(t *testing.T) {
	s := formSignature()
	for _, x := range unformedTrees() {
		if form, ok := impl.CanonicalTerm(s, x); !ok || impl.SortsOf(s, form) == 0 {
			t.Fatal(x, form, ok)
		}
	}
	for _, x := range noTerms() {
		checkNoSort(t, s, x)
	}
}

func TestSortsOfInvalidSignatures(t *testing.T) {
	trees := treesOf(formSignature(), "x:A; a; d; g(a); c(a, b); h(a, b); l(a, b, a); m(a, b); u(b, b); v(b, b); w(a, a); z(b, b, b); q(a, b); k(d, a, d)")
	for _, s := range brokenSignatures() {
		for _, x := range trees {
			checkNoSort(t, s, x)
		}
		checkPreregular(t, s, false)
	}
	s := signatureOf(sortsOf(8, ""), "a -A")
	s.Sorts.Names = append(s.Sorts.Names, "I")
	checkNoSort(t, s, apply(0))
	checkPreregular(t, s, false)
	s = impl.Signature{Sorts: sortsOf(1, ""), Ops: make([]impl.Op, 1000000)}
	checkNoSort(t, s, variableOf("x", 0))
	checkPreregular(t, s, false)
}

// Deep trees need no deep calls.
func TestSortsOfGreatTrees(t *testing.T) {
	defer debug.SetMaxStack(debug.SetMaxStack(1 << 22))
	s := formSignature()
	for _, x := range endlessTrees() {
		checkNoSort(t, s, x)
		checkNoSort(t, s, apply(3, x))
	}
}

func TestSortsWithEmptySlices(t *testing.T) {
	names := []string{"A", "B"}
	for _, subs := range [][]impl.Sub{nil, {}} {
		for _, args := range [][]impl.Term{nil, {}, make([]impl.Term, 3)[:0]} {
			s := impl.Signature{Sorts: impl.Sorts{Names: names, Subs: subs}, Ops: []impl.Op{{Name: "a", Decls: []impl.Decl{{Args: []int{}, Result: 1}, {Args: nil, Result: 1}}}}}
			checkSortsOf(t, s, impl.Term{Op: 0, Args: args}, 2, 1, true)
			checkSortsOf(t, s, impl.Term{Op: -1, Name: "x", Sort: 1, Args: args}, 2, 1, true)
			checkPreregular(t, s, true)
			for _, ops := range [][]impl.Op{nil, {}} {
				s.Ops = ops
				checkSortsOf(t, s, impl.Term{Op: -1, Name: "x", Sort: 0, Args: args}, 1, 0, true)
				checkNoSort(t, s, impl.Term{Op: 0, Args: args})
				checkPreregular(t, s, true)
			}
		}
	}
	checkNoSort(t, impl.Signature{}, impl.Term{})
	checkNoSort(t, impl.Signature{}, variableOf("x", 0))
	checkPreregular(t, impl.Signature{}, false)
}

func TestIsPreregular(t *testing.T) {
	cases := []struct {
		ops  string
		want bool
	}{
		{"", true},
		// Constants.
		{"a -A", true},
		{"a -A -A -A", true},
		{"a -H -A", true},
		{"a -A -B", false},
		{"a -A; b -B; c -H", true},
		{"a -A; b -B; c -B -A", false},
		// One argument: only declarations for one sort of argument are together.
		{"f A-C B-D", true},
		{"f A-C A-D", false},
		{"f A-C H-D", false},
		{"f H-C A-D", false},
		{"f A-C H-H", true},
		{"f A-H H-C", true},
		{"f A-A B-B C-C D-D", true},
		{"f A-A B-B H-H D-D", true},
		{"f A-A B-B H-C D-D", false},
		// Each argument has its own place.
		{"g AB-C AB-D", false},
		{"g AB-C BA-D", true},
		{"g AB-C BB-D", true},
		{"g AB-C AA-D", true},
		{"g AB-C HH-D", false},
		{"g AH-C HB-D", false},
		{"g AH-C BH-D", true},
		{"g HA-C HB-D", true},
		{"g HA-C HA-C", true},
		{"g AH-C HB-D HH-H", false},
		{"g AH-C HB-C HH-H", true},
		{"k ABC-D ABC-E", false},
		{"k ABC-D ABD-E", true},
		{"k ABC-D ACC-E", true},
		{"k ABC-D BBC-E", true},
		{"k ABC-D BAC-E CBA-F BCA-G", true},
		{"k AHH-D HBH-E", false},
		{"k AHH-D HHC-D HBH-E", false},
		{"k AHC-D HBD-E", true},
		// The two sorts can be exchanged if the operator is commutative, not otherwise.
		{"g AB-C BA-D comm", false},
		{"g AB-C BA-C comm", true},
		{"g AB-C BA-H comm", true},
		{"g AB-C BB-D comm", true},
		{"g AB-C AC-D comm", true},
		{"g AH-C HB-D comm", false},
		{"g AH-C BH-D", true},
		{"g AH-C BH-D comm", false},
		{"g HA-C HB-D comm", false},
		{"g AA-C BB-D HH-H comm", true},
		{"g AB-C BA-D assoc", true},
		{"g AB-C BA-D assoc comm", false},
		{"e -A; g AB-C BA-D unit=1", true},
		{"e -A; g AB-C BA-D comm unit=1", false},
		// Only two arguments count, however many an operator can have.
		{"l AB-C CB-D BB-E AE-F assoc", true},
		{"l AB-D DC-E BC-F FA-G assoc comm", true},
		// Declarations of another operator and of another kind do not count.
		{"f A-C; g A-D", true},
		{"f A-C; g A-D; h A-C A-D", false},
		{"h A-C A-D; f A-C; g A-D", false},
		// What is not valid is not preregular.
		{"a -A; a -A", false},
		{"a -I", false},
		{"a -A; f A-A -A", false},
		{"g AAA-A comm", false},
	}
	for _, c := range cases {
		s := signatureOf(flatSorts(), c.ops)
		if got := impl.IsPreregular(s); got != c.want {
			t.Errorf("IsPreregular of %q is %v", c.ops, got)
		}
	}
}

// Which choices there are depends on the sorts below those of the declarations.
func TestPreregularDependsOnTheSorts(t *testing.T) {
	cases := []struct {
		count      int
		pairs, ops string
		want       bool
	}{
		{5, "AE BE CE DE", "f A-C B-D", true},
		{6, "AE BE CE DE FA FB", "f A-C B-D", false},
		{6, "AE BE CE DE FA FB", "f A-C B-D F-F", false},
		{6, "AE BE CE DE FA FB FC FD", "f A-C B-D F-F", true},
		{6, "AE BE CE DE FA FB FC FD", "f A-C B-D F-C", false},
		{6, "AE BE CE DE FC FD", "f A-C B-D", true},
		{5, "AE BE CD DE", "f A-C A-D", true},
		{5, "AE BE CD DE", "f A-D B-C E-E", true},
		{5, "AE BE CE DE", "f E-C A-D", false},
		{5, "AE BE CE DC", "f E-C A-D", true},
		{5, "AE BE CE DC", "f E-D A-C", true},
		{6, "AE BE CE DE FA FB", "g AF-C BF-D", false},
		{6, "AE BE CE DE FA FB", "g AB-C BA-D", false},
		{6, "AE BE CE DE FA", "g AB-C BA-D", true},
		{6, "AE BE CE DE FA FB", "k ABF-C BAF-D", false},
		{6, "AE BE CE DE FA FB", "k FFA-C FFB-D", false},
		{6, "AE BE CE DE FA FB", "k EAC-C EBD-D", true},
		{6, "AE BE CE DE FA", "g AC-C CF-D", true},
		{6, "AE BE CE DE FA", "g AC-C CF-D comm", false},
		{6, "AE BE CE DE FA", "g AC-C CF-D assoc comm", false},
		{6, "AE BE CE DE FA", "g FC-C CF-E comm", true},
		// Two kinds, also with sorts that have nothing above or below them.
		{5, "AB", "f AC-D BC-D", true},
		{5, "AB DE", "f AC-D BC-E", true},
		{5, "AB DE", "f AC-E BC-D", true},
		{5, "AC BC ED", "q AD-A CE-B", false},
		{5, "AC BC ED", "q AE-A CD-C", true},
	}
	for _, c := range cases {
		s := signatureOf(sortsOf(c.count, c.pairs), c.ops)
		checkSignature(t, s, true)
		if got := impl.IsPreregular(s); got != c.want || sortTextFor(s).isPreregular() != c.want {
			t.Errorf("IsPreregular of %q with %q is %v", c.ops, c.pairs, got)
		}
	}
}

// checkOperator checks all terms of the last operator with up to width variables of any sorts, and IsPreregular.
func checkOperator(t *testing.T, s impl.Signature, width int) {
	t.Helper()
	f := sortTextFor(s)
	checkPreregular(t, s, f.isPreregular())
	lists := []string{""}
	for count := 1; count <= width; count++ {
		longer := []string{}
		for _, list := range lists {
			for _, name := range s.Sorts.Names {
				longer = append(longer, list+name)
			}
		}
		lists = longer
		for _, list := range lists {
			if x := lastOver(s, list); f.isTerm(x) {
				checkByText(t, f, x)
			}
		}
	}
}

// Every operator with one or two declarations of two arguments of three sorts, with all axioms.
func TestSortsOfEveryOperatorOfTwoArguments(t *testing.T) {
	decls := allDecls(2)
	orders := []string{"AB CB", "AB BC", "BA BC", "BA CB BA", "AB AC CB"}
	for i, first := range decls {
		for j, second := range decls[:i+1] {
			for axioms := range 4 {
				s := impl.Signature{Sorts: sortsOf(3, orders[(i+j)%len(orders)])}
				s.Ops = []impl.Op{{Name: "l", Decls: []impl.Decl{first, second}, Assoc: axioms%2 == 1, Comm: axioms/2 == 1}}
				checkOperator(t, s, 2+axioms%2)
			}
		}
	}
}

// sortsOfOneKind gives 2 to 8 sorts, each but one of which is below at least one that follows it in a random order.
func sortsOfOneKind(source *rand.Rand) impl.Sorts {
	count := 2 + source.Intn(7)
	s, place := impl.Sorts{Names: sortNames(count)}, source.Perm(count)
	for low := range count - 1 {
		for range 1 + source.Intn(2) {
			s.Subs = append(s.Subs, impl.Sub{Low: place[low], High: place[low+1+source.Intn(count-1-low)]})
		}
	}
	return s
}

// sortedSignature gives a signature of one kind, with operators of each arity and with random axioms.
func sortedSignature(source *rand.Rand) impl.Signature {
	s := impl.Signature{Sorts: sortsOfOneKind(source)}
	for i, arity := range []int{0, 0, 1, 2, 2, 2, 3} {
		op := impl.Op{Name: string(rune('a' + i)), Decls: randomDecls(source, arity, len(s.Sorts.Names))}
		if arity == 2 {
			op.Assoc, op.Comm, op.Unit = source.Intn(3) > 0, source.Intn(2) > 0, max(0, source.Intn(6)-3)
		}
		s.Ops = append(s.Ops, op)
	}
	return s
}

// sortedTree gives a tree with variables of different names, which need not be in canonical form.
func sortedTree(source *rand.Rand, s impl.Signature, depth int) impl.Term {
	op := source.Intn(len(s.Ops))
	if depth == 1 || source.Intn(4) == 0 {
		return variableOf(fmt.Sprint("v", source.Intn(50)), source.Intn(len(s.Sorts.Names)))
	}
	count := len(s.Ops[op].Decls[0].Args)
	if s.Ops[op].Assoc {
		count += source.Intn(6)
	}
	tree := apply(op)
	for range count {
		tree.Args = append(tree.Args, sortedTree(source, s, depth-1))
	}
	return tree
}

// All sorts of a term are above its least sort.
func TestAllSortsAreAboveTheLeastOne(t *testing.T) {
	source := rand.New(rand.NewSource(30))
	count := [3]int{}
	for range 1500 {
		f := sortTextFor(sortedSignature(source))
		checkPreregular(t, f.s, f.isPreregular())
		for range 6 {
			x := sortedTree(source, f.s, 1+source.Intn(4))
			form, ok := f.canonicalTerm(x)
			checkByText(t, f, x)
			checkByText(t, f, spoiltTree(source, form))
			if !ok || form.Op == -1 {
				continue
			}
			set := checkByText(t, f, form)
			count[min(2, len(elementsByDivision(f.below.least(set))))]++
		}
	}
	if slices.Min(count[:]) < 500 {
		t.Error("too few of one sort:", count)
	}
}

// Random signatures of several kinds, in which few terms have sorts.
func TestSortsOfSeveralKinds(t *testing.T) {
	source := rand.New(rand.NewSource(31))
	count := map[bool]int{}
	for range 2500 {
		s := validPart(randomSignature(source))
		f := sortTextFor(s)
		checkPreregular(t, s, f.isPreregular())
		for range 3 {
			x := treeOfKind(source, f.formsByText, f.kinds[source.Intn(len(f.kinds))], 1+source.Intn(4))
			checkByText(t, f, x)
			if form, ok := f.canonicalTerm(x); ok {
				count[checkByText(t, f, form) > 0 && form.Op >= 0]++
			}
		}
		changed := randomSignature(source)
		checkPreregular(t, changed, isSignatureByText(changed) && sortTextFor(changed).isPreregular())
	}
	if count[true] < 500 || count[false] < 500 {
		t.Error("too few of one kind:", count)
	}
}

// A signature is preregular exactly if each operator, applied to as many variables as its arity, has at most one least sort.
func TestPreregularSignaturesHaveLeastSorts(t *testing.T) {
	source := rand.New(rand.NewSource(32))
	count := map[bool]int{}
	for range 600 {
		f := sortTextFor(sortedSignature(source))
		// Few operators are more often preregular.
		f.s.Ops = f.s.Ops[2+source.Intn(5):]
		for i := range f.s.Ops {
			f.s.Ops[i].Unit = 0
			f.s.Ops[i].Decls = f.s.Ops[i].Decls[:1+source.Intn(len(f.s.Ops[i].Decls))]
		}
		want := true
		for op := range f.s.Ops {
			for _, choice := range f.choicesOf(op) {
				x := apply(op)
				for i, k := range choice {
					x.Args = append(x.Args, variableOf(fmt.Sprint("v", i), k))
				}
				want = want && impl.CountOf(impl.LeastSorts(f.s.Sorts, impl.SortsOf(f.s, x))) <= 1
			}
		}
		checkPreregular(t, f.s, want)
		count[want]++
	}
	if count[true] < 50 || count[false] < 50 {
		t.Error("too few of one kind:", count)
	}
}

// In a preregular signature without associative operators, each term that has sorts has a least one.
func TestTermsOfPreregularSignatures(t *testing.T) {
	source := rand.New(rand.NewSource(33))
	found := 0
	for range 6000 {
		f := sortTextFor(sortedSignature(source))
		for i := range f.s.Ops {
			f.s.Ops[i].Assoc = false
			f.s.Ops[i].Decls = f.s.Ops[i].Decls[:1+source.Intn(2)*source.Intn(len(f.s.Ops[i].Decls))]
		}
		if !impl.IsPreregular(f.s) {
			continue
		}
		for range 10 {
			form, _ := f.canonicalTerm(sortedTree(source, f.s, 4))
			if _, ok := impl.LeastSortOf(f.s, form); ok != (impl.SortsOf(f.s, form) > 0) {
				t.Fatalf("%v in %+v", form, f.s)
			} else if ok && form.Op >= 0 {
				found++
			}
		}
	}
	if found < 1000 {
		t.Error("only", found)
	}
}

// permutations gives all orders of the letters of a text.
func permutations(text string) []string {
	if text == "" {
		return []string{""}
	}
	list := []string{}
	for i := range text {
		for _, rest := range permutations(text[:i] + text[i+1:]) {
			list = append(list, text[i:i+1]+rest)
		}
	}
	return list
}

// The order of the variables, which their names give, does not matter to a commutative operator.
func TestArgumentsInAnyOrder(t *testing.T) {
	for _, c := range []struct{ ops, names, want string }{
		{"l AB-C comm", "AB", "CH"},
		{"l AB-C BA-D comm", "AB", "CDH"},
		{"l AB-C CD-E EF-G assoc comm", "ABDF", "GH"},
		{"l AB-E CD-F FE-G AC-D assoc comm", "ABCD", "GH"},
		{"l AB-C CC-D DC-E EA-F assoc comm", "AAAABBB", "FH"},
		{"l AB-H HC-H DH-H HE-G assoc comm", "ABCDE", "GH"},
		{"l AB-G GC-G DG-G EF-G assoc comm", "ABCCDDD", "GH"},
		{"l AB-C CC-D DC-E EA-F assoc comm", "AAABBBB", ""},
	} {
		s := signatureOf(flatSorts(), c.ops)
		for i, names := range permutations(c.names) {
			if got := impl.SortsOf(s, overSorts(0, names)); got != setOfLetters(c.want) {
				t.Fatalf("%s: SortsOf of %s is %b", c.ops, names, got)
			}
			if i%500 == 0 {
				checkByText(t, sortTextFor(s), overSorts(0, names))
			}
		}
	}
}

// The sorts of what is applied to more arguments are those of two variables that stand for groups of them.
func TestSortsOfGroups(t *testing.T) {
	source := rand.New(rand.NewSource(34))
	for range 400 {
		s := sortedSignature(source)
		op := 3 + source.Intn(3)
		s.Ops[op].Assoc, s.Ops[op].Comm = true, false
		list := ""
		for range 3 + source.Intn(5) {
			list += s.Sorts.Names[source.Intn(len(s.Sorts.Names))]
		}
		want := 0
		for cut := 1; cut < len(list); cut++ {
			for _, left := range impl.ListOf(groupSorts(s, op, list[:cut])) {
				for _, right := range impl.ListOf(groupSorts(s, op, list[cut:])) {
					want |= impl.SortsOf(s, apply(op, variableOf("x", left), variableOf("y", right)))
				}
			}
		}
		if got := groupSorts(s, op, list); got != want {
			t.Fatalf("SortsOf of the operator %d and %s in %+v is %b, want %b", op, list, s, got, want)
		}
	}
}

// groupSorts gives the sorts of an operator applied to variables, or of one variable alone.
func groupSorts(s impl.Signature, op int, names string) int {
	x := overSorts(op, names)
	if len(names) == 1 {
		x = x.Args[0]
	}
	return impl.SortsOf(s, x)
}

// lowered gives a tree in which each variable has a sort below its own.
func lowered(source *rand.Rand, s impl.Signature, t impl.Term) impl.Term {
	if t.Op == -1 {
		below := impl.ListOf(impl.BelowSort(s.Sorts, t.Sort))
		return variableOf(t.Name, below[source.Intn(len(below))])
	}
	args := []impl.Term{}
	for _, arg := range t.Args {
		args = append(args, lowered(source, s, arg))
	}
	return apply(t.Op, args...)
}

// Variables of lower sorts take no sort away.
func TestLowerVariablesKeepTheSorts(t *testing.T) {
	source := rand.New(rand.NewSource(35))
	more := 0
	for range 3000 {
		f := sortTextFor(sortedSignature(source))
		x, ok := f.canonicalTerm(sortedTree(source, f.s, 2+source.Intn(2)))
		if !ok {
			continue
		}
		y, ok := impl.CanonicalTerm(f.s, lowered(source, f.s, x))
		before, after := impl.SortsOf(f.s, x), impl.SortsOf(f.s, y)
		if !ok || !impl.IsSubset(before, after) {
			t.Fatalf("%v has the sorts %b, but %v has %b in %+v", x, before, y, after, f.s)
		}
		if before != after && x.Op >= 0 {
			more++
		}
	}
	if more < 200 {
		t.Error("only", more)
	}
}

func TestSortsLeaveTheirArguments(t *testing.T) {
	source := rand.New(rand.NewSource(36))
	for seed := range int64(500) {
		s := sortedSignature(rand.New(rand.NewSource(seed)))
		x, _ := textFor(s).canonicalTerm(sortedTree(source, s, 4))
		list := []impl.Term{roomyCopy(x), roomyCopy(sortedTree(source, s, 3))}
		want := wholeOf(list)
		for range 2 {
			for _, y := range list {
				checkByText(t, sortTextFor(s), y)
			}
			impl.IsPreregular(s)
		}
		if got := wholeOf(list); !reflect.DeepEqual(got, want) {
			t.Fatalf("%v, before %v", got, want)
		}
		if before := sortedSignature(rand.New(rand.NewSource(seed))); !reflect.DeepEqual(s, before) {
			t.Fatalf("%+v, before %+v", s, before)
		}
	}
	s := fullSignature()
	for _, x := range []impl.Term{apply(0), overSorts(1, "AB"), overSorts(1, "BBABCAB"), variableOf("x", 2)} {
		checkByText(t, sortTextFor(s), x)
		checkPreregular(t, s, sortTextFor(s).isPreregular())
		if !reflect.DeepEqual(withCapacity(s), withCapacity(fullSignature())) {
			t.Fatalf("%+v", withCapacity(s))
		}
	}
}
