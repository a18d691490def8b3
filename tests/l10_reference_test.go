package tests

import (
	"fmt"
	"maps"
	"math/rand"
	"reflect"
	"runtime/debug"
	"slices"
	"strings"
	"testing"

	"loop.example/g03107/impl"
)

// matchesByText answers as the text of the chapter does, sentence by sentence, for a valid signature.
type matchesByText struct{ bindingsByText }

func matchTextFor(s impl.Signature) matchesByText {
	return matchesByText{bindingTextFor(s)}
}

// inOrder gives the different terms of a list in ascending order.
func inOrder(list []impl.Term) []impl.Term {
	byKey, ordered := map[string]impl.Term{}, []impl.Term{}
	for _, t := range list {
		byKey[orderKey(t)] = t
	}
	for _, key := range slices.Sorted(maps.Keys(byKey)) {
		ordered = append(ordered, byKey[key])
	}
	return ordered
}

// sublists gives all lists that are left if some elements are left out.
func sublists(list []impl.Term) [][]impl.Term {
	if len(list) == 0 {
		return [][]impl.Term{nil}
	}
	all := [][]impl.Term{}
	for _, rest := range sublists(list[1:]) {
		all = append(all, rest, append([]impl.Term{list[0]}, rest...))
	}
	return all
}

// stretches gives all lists of adjacent elements.
func stretches(list []impl.Term) [][]impl.Term {
	all := [][]impl.Term{}
	for start := range list {
		for end := start + 1; end <= len(list); end++ {
			all = append(all, list[start:end])
		}
	}
	return all
}

func (f matchesByText) candidates(t impl.Term) []impl.Term {
	list := []impl.Term{}
	if !f.isTerm(t) {
		return list
	}
	for _, part := range partsByText(t) {
		list = append(list, part)
		if part.Op == -1 || !f.s.Ops[part.Op].Assoc {
			continue
		}
		groups := stretches(part.Args)
		if f.s.Ops[part.Op].Comm {
			groups = sublists(part.Args)
		}
		for _, group := range groups {
			if len(group) >= 2 {
				list = append(list, apply(part.Op, group...))
			}
		}
	}
	for _, op := range f.s.Ops {
		if op.Unit > 0 {
			list = append(list, apply(op.Unit-1))
		}
	}
	return inOrder(list)
}

// variablesByText gives the different variables of a term in ascending order.
func variablesByText(t impl.Term) []impl.Term {
	return inOrder(slices.DeleteFunc(partsByText(t), func(part impl.Term) bool { return part.Op != -1 }))
}

// trials gives how many assignments there are, more than the limit if there are very many.
func (f matchesByText) trials(p, t impl.Term) int {
	number, candidates := 1, len(f.candidates(t))
	for range variablesByText(p) {
		number = min(1000000, number*candidates)
	}
	return number
}

// assigned gives all lists that bind each variable to one of its values, in ascending order if all values are.
func assigned(variables []impl.Term, values func(v impl.Term) []impl.Term) [][]impl.Binding {
	lists := [][]impl.Binding{{}}
	for _, v := range variables {
		longer, choices := [][]impl.Binding{}, values(v)
		for _, list := range lists {
			for _, to := range choices {
				longer = append(longer, append(slices.Clone(list), impl.Binding{Var: v, To: to}))
			}
		}
		lists = longer
	}
	return lists
}

func (f matchesByText) matches(p, t impl.Term) ([][]impl.Binding, bool) {
	if !f.isTerm(p) || !f.isTerm(t) || f.trials(p, t) > 20000 {
		return nil, false
	}
	return f.allMatches(p, t), true
}

// allMatches tries all assignments, however many there are.
func (f matchesByText) allMatches(p, t impl.Term) [][]impl.Binding {
	candidates := f.candidates(t)
	lists := assigned(variablesByText(p), func(v impl.Term) []impl.Term {
		return slices.DeleteFunc(slices.Clone(candidates), func(to impl.Term) bool { return f.sortsOf(to)>>v.Sort&1 == 0 })
	})
	lists = slices.DeleteFunc(lists, func(list []impl.Binding) bool {
		instance, ok := f.apply(list, p)
		return !ok || orderKey(instance) != orderKey(t)
	})
	slices.SortFunc(lists, func(a, b []impl.Binding) int { return strings.Compare(bindingsKey(a), bindingsKey(b)) })
	return lists
}

// listKeys gives the keys of some lists of bindings in their order.
func listKeys(lists [][]impl.Binding) []string {
	keys := []string{}
	for _, list := range lists {
		keys = append(keys, bindingsKey(list))
	}
	return keys
}

func checkCandidates(t *testing.T, s impl.Signature, x impl.Term, want []impl.Term) {
	t.Helper()
	if got := impl.CandidateTerms(s, x); !slices.Equal(keysOf(got), keysOf(want)) {
		t.Fatalf("CandidateTerms(%+v, %v) = %v, want %v", s, x, got, want)
	}
}

func checkMatches(t *testing.T, s impl.Signature, p, x impl.Term, want [][]impl.Binding, wantOk bool) {
	t.Helper()
	if got, ok := impl.ReferenceMatches(s, p, x); ok != wantOk || !slices.Equal(listKeys(got), listKeys(want)) {
		t.Fatalf("ReferenceMatches(%+v, %v, %v) = %v, %v, want %v, %v", s, p, x, got, ok, want, wantOk)
	}
}

// checkNoMatching checks ReferenceMatches where an argument is not valid or there are too many assignments.
func checkNoMatching(t *testing.T, s impl.Signature, p, x impl.Term) {
	t.Helper()
	checkMatches(t, s, p, x, nil, false)
}

// checkNoCandidates checks all functions for what is no term, in place of the pattern and of the term.
func checkNoCandidates(t *testing.T, s impl.Signature, x impl.Term) {
	t.Helper()
	checkCandidates(t, s, x, nil)
	for _, other := range []impl.Term{x, variableOf("x", 0), variableOf("y", 2), apply(0), apply(3, apply(0))} {
		checkNoMatching(t, s, x, other)
		checkNoMatching(t, s, other, x)
	}
}

// checkTrial checks the matches of a pattern against the text, and gives their number.
func checkTrial(t *testing.T, f matchesByText, p, x impl.Term) int {
	t.Helper()
	want, ok := f.matches(p, x)
	checkMatches(t, f.s, p, x, want, ok)
	return len(want)
}

func TestMaxTrials(t *testing.T) {
	if impl.MaxTrials != 20000 {
		t.Error(impl.MaxTrials)
	}
}

func TestCandidateTerms(t *testing.T) {
	s := formSignature()
	f := matchTextFor(s)
	for _, c := range []struct{ tree, want string }{
		// The Units are always there, each once.
		{"a", "a; b"},
		{"b", "a; b"},
		{"d", "a; b; d"},
		{"x:C", "x:C; a; b"},
		{"x:E", "x:E; a; b"},
		// All parts are there, each once.
		{"g(a)", "a; b; g(a)"},
		{"g(g(x:B))", "x:B; a; b; g(x:B); g(g(x:B))"},
		{"c(g(a), x:B)", "x:B; a; b; g(a); c(g(a), x:B)"},
		{"c(x:B, c(x:A, x:B))", "x:A; x:B; a; b; c(x:A, x:B); c(x:B, c(x:A, x:B))"},
		{"k(d, g(b), k(x:E, x:A, d))", "x:A; x:E; a; b; d; g(b); k(x:E, x:A, d); k(d, g(b), k(x:E, x:A, d))"},
		// What is not associative has no groups.
		{"h(x:A, x:B)", "x:A; x:B; a; b; h(x:A, x:B)"},
		{"h(x:A, h(x:B, x:C))", "x:A; x:B; x:C; a; b; h(x:A, h(x:B, x:C)); h(x:B, x:C)"},
		{"u(u(b, x:A), x:A)", "x:A; a; b; u(b, x:A); u(u(b, x:A), x:A)"},
		{"v(b, v(b, b))", "a; b; v(b, b); v(b, v(b, b))"},
		{"q(x:A, x:B)", "x:A; x:B; a; b; q(x:A, x:B)"},
		// Adjacent Args of an associative operator.
		{"l(b, a)", "a; b; l(b, a)"},
		{"l(x:A, x:B, x:C)", "x:A; x:B; x:C; a; b; l(x:A, x:B); l(x:A, x:B, x:C); l(x:B, x:C)"},
		{"l(b, b, a)", "a; b; l(b, a); l(b, b); l(b, b, a)"},
		{"l(a, b, a, b)", "a; b; l(a, b); l(a, b, a); l(a, b, a, b); l(b, a); l(b, a, b)"},
		{"l(a, a, a, a)", "a; b; l(a, a); l(a, a, a); l(a, a, a, a)"},
		{"w(g(a), a, g(a))", "a; b; g(a); w(a, g(a)); w(g(a), a); w(g(a), a, g(a))"},
		// Any Args of one that is commutative as well.
		{"m(a, b)", "a; b; m(a, b)"},
		{"m(x:A, x:B, x:C)", "x:A; x:B; x:C; a; b; m(x:A, x:B); m(x:A, x:B, x:C); m(x:A, x:C); m(x:B, x:C)"},
		{"m(a, a, b)", "a; b; m(a, a); m(a, a, b); m(a, b)"},
		{"m(a, a, b, b)", "a; b; m(a, a); m(a, a, b); m(a, a, b, b); m(a, b); m(a, b, b); m(b, b)"},
		{"z(b, b, b)", "a; b; z(b, b); z(b, b, b)"},
		{"z(x:C, b, g(a))", "x:C; a; b; g(a); z(x:C, b); z(x:C, b, g(a)); z(x:C, g(a)); z(b, g(a))"},
		// In parts as well, also where one operator is inside of another one or of itself.
		{"g(l(x:A, x:B, x:C))", "x:A; x:B; x:C; a; b; g(l(x:A, x:B, x:C)); l(x:A, x:B); l(x:A, x:B, x:C); l(x:B, x:C)"},
		{"k(d, m(x:A, a, b), d)", "x:A; a; b; d; m(x:A, a); m(x:A, a, b); m(x:A, b); m(a, b); k(d, m(x:A, a, b), d)"},
		{"l(m(a, a, b), b, a)", "a; b; l(b, a); l(m(a, a, b), b); l(m(a, a, b), b, a); m(a, a); m(a, a, b); m(a, b)"},
		{"l(b, g(l(a, a, b)), a)", "a; b; g(l(a, a, b)); l(a, a); l(a, a, b); l(a, b); l(b, g(l(a, a, b))); l(b, g(l(a, a, b)), a); l(g(l(a, a, b)), a)"},
		{"z(b, b, w(a, a, a))", "a; b; w(a, a); w(a, a, a); z(b, b); z(b, b, w(a, a, a)); z(b, w(a, a, a))"},
	} {
		checkCandidates(t, s, treeOf(s, c.tree), treesOf(s, c.want))
		checkCandidates(t, s, treeOf(s, c.tree), f.candidates(treeOf(s, c.tree)))
	}
}

// The Units are those of the signature, also of other kinds and where no Unit occurs.
func TestUnitsAreCandidates(t *testing.T) {
	for _, c := range []struct{ ops, tree, want string }{
		{"", "x:A", "x:A"},
		{"a -A; b -D", "a", "a"},
		{"a -A; b -D", "x:D", "x:D"},
		{"a -A; m AA-A assoc comm", "m(a, x:A)", "x:A; a; m(x:A, a)"},
		{"a -A; u AA-A unit=1", "x:A", "x:A; a"},
		{"a -A; u AA-A unit=1", "x:D", "x:D; a"},
		{"a -A; b -D; u AA-A unit=1", "b", "a; b"},
		{"a -A; b -D; u AA-A unit=1; v DD-D unit=2", "x:A", "x:A; a; b"},
		{"a -A; b -D; v DD-D comm unit=2; u AA-A assoc comm unit=1", "x:A", "x:A; a; b"},
		{"a -A; b -D; c -A; u AA-A assoc unit=3; v DD-D comm", "a", "a; c"},
		{"a -A; b -A; u AA-A assoc unit=2; v AA-A comm unit=2; w AA-A unit=2", "x:A", "x:A; b"},
		{"a -A; b -A; u AA-A assoc unit=2; v AA-A comm unit=1; w AA-A unit=2", "b", "a; b"},
		{"u AA-A assoc unit=2; a -A; b -A", "b", "a; b"},
		{"u AA-A assoc unit=2; a -A; b -A", "u(b, b, x:A)", "x:A; u(b, x:A); u(b, b); u(b, b, x:A); a; b"},
	} {
		s := signatureOf(twoKinds(), c.ops)
		checkSignature(t, s, true)
		x, _ := impl.CanonicalTerm(s, treeOf(s, c.tree))
		checkCandidates(t, s, x, treesOf(s, c.want))
		checkCandidates(t, s, x, matchTextFor(s).candidates(x))
	}
}

// Up to the greatest width, all groups are found.
func TestNumberOfCandidates(t *testing.T) {
	s := limitSignature()
	for width := 2; width <= 8; width++ {
		args := []impl.Term{}
		for i := range width {
			args = append(args, variableOf(fmt.Sprint("x", i), 0))
		}
		for op, want := range map[int]int{5: width*(width+1)/2 + 1, 6: 1 << width, 7: width*(width+1)/2 + 1, 8: 1 << width} {
			x := apply(op, args...)
			if width > impl.MaxWidth {
				checkNoCandidates(t, s, x)
				continue
			}
			checkCandidates(t, s, x, matchTextFor(s).candidates(x))
			if got := len(impl.CandidateTerms(s, x)); got != want {
				t.Errorf("%v has %d candidates, want %d", x, got, want)
			}
			x = apply(op, slices.Repeat([]impl.Term{args[0]}, width)...)
			if got := len(impl.CandidateTerms(s, x)); got != width+1 {
				t.Errorf("%v has %d candidates, want %d", x, got, width+1)
			}
		}
	}
}

// matchCase is a pattern and a term, with the texts of all matches.
type matchCase struct {
	p, tree string
	want    []string
}

// formCases gives patterns and terms of formSignature.
func formCases() []matchCase {
	return []matchCase{
		// Without variables there is one substitution or none.
		{"a", "a", []string{"none"}},
		{"a", "b", nil},
		{"a", "d", nil},
		{"a", "x:A", nil},
		{"g(a)", "a", nil},
		{"g(a)", "g(a)", []string{"none"}},
		{"m(a, a, b)", "m(a, a, b)", []string{"none"}},
		{"m(a, a, b)", "m(a, b, b)", nil},
		{"l(b, a)", "l(b, a, b)", nil},
		// The value must have the sort of the variable, or one below it.
		{"x:A", "a", []string{"x:A = a"}},
		{"x:C", "a", []string{"x:C = a"}},
		{"x:B", "a", nil},
		{"x:D", "a", nil},
		{"x:E", "d", []string{"x:E = d"}},
		{"x:C", "c(a, b)", []string{"x:C = c(a, b)"}},
		{"x:A", "c(a, b)", nil},
		{"x:C", "g(b)", nil},
		{"g(x:C)", "g(b)", []string{"x:C = b"}},
		{"g(x:B)", "g(b)", []string{"x:B = b"}},
		{"g(x:A)", "g(b)", nil},
		{"x:A", "x:A", []string{"x:A = x:A"}},
		{"x:A", "y:A", []string{"x:A = y:A"}},
		{"x:C", "y:A", []string{"x:C = y:A"}},
		{"x:A", "y:C", nil},
		// Without axioms there is at most one match.
		{"g(x:A)", "a", nil},
		{"g(x:A)", "g(a)", []string{"x:A = a"}},
		{"g(x:A)", "g(g(a))", []string{"x:A = g(a)"}},
		{"g(g(x:A))", "g(a)", nil},
		{"c(x:A, y:B)", "c(a, b)", []string{"x:A = a, y:B = b"}},
		{"c(y:A, x:B)", "c(a, b)", []string{"x:B = b, y:A = a"}},
		{"c(x:A, x:B)", "c(a, b)", []string{"x:A = a, x:B = b"}},
		{"c(x:B, x:A)", "c(a, b)", nil},
		{"c(x:C, x:C)", "c(a, b)", nil},
		{"c(x:C, x:C)", "c(g(a), g(a))", []string{"x:C = g(a)"}},
		{"c(x:C, g(x:C))", "c(g(a), g(g(a)))", []string{"x:C = g(a)"}},
		{"c(x:C, g(x:C))", "c(g(a), g(a))", nil},
		{"k(x:E, y:C, z:D)", "k(q(a, b), g(a), d)", []string{"x:E = q(a, b), y:C = g(a), z:D = d"}},
		{"k(x:D, y:C, z:D)", "k(q(a, b), g(a), d)", nil},
		// The variables of the pattern and those of the term have nothing to do with each other.
		{"c(x:A, y:B)", "c(y:A, x:B)", []string{"x:A = y:A, y:B = x:B"}},
		{"c(x:A, y:A)", "c(y:A, x:A)", []string{"x:A = y:A, y:A = x:A"}},
		{"x:C", "c(y:A, x:B)", []string{"x:C = c(y:A, x:B)"}},
		{"x:C", "c(x:C, x:A)", nil},
		{"g(x:A)", "g(g(x:A))", []string{"x:A = g(x:A)"}},
		{"c(x:A, a)", "c(x:A, a)", []string{"x:A = x:A"}},
		{"c(a, x:A)", "c(x:A, a)", nil},
		// A commutative operator.
		{"h(x:C, y:C)", "h(a, b)", []string{"x:C = a, y:C = b", "x:C = b, y:C = a"}},
		{"h(x:C, y:C)", "h(a, a)", []string{"x:C = a, y:C = a"}},
		{"h(x:A, y:B)", "h(a, b)", []string{"x:A = a, y:B = b"}},
		{"h(x:B, y:A)", "h(a, b)", []string{"x:B = b, y:A = a"}},
		{"h(x:A, y:A)", "h(a, b)", nil},
		{"h(x:C, x:C)", "h(a, b)", nil},
		{"h(x:C, x:C)", "h(b, b)", []string{"x:C = b"}},
		{"h(x:C, g(y:A))", "h(g(a), g(b))", nil},
		{"h(x:C, g(y:C))", "h(g(a), g(b))", []string{"x:C = g(a), y:C = b"}},
		{"h(x:C, h(y:C, z:C))", "h(a, h(a, b))", []string{"x:C = a, y:C = a, z:C = b", "x:C = a, y:C = b, z:C = a"}},
		// An associative operator: values can be applications to adjacent Args.
		{"l(x:C, y:C)", "l(b, a)", []string{"x:C = b, y:C = a"}},
		{"l(x:C, y:C)", "l(a, b, a)", []string{"x:C = a, y:C = l(b, a)", "x:C = l(a, b), y:C = a"}},
		{"l(y:C, x:C)", "l(a, b, a)", []string{"x:C = a, y:C = l(a, b)", "x:C = l(b, a), y:C = a"}},
		{"l(x:A, y:C)", "l(a, a, b)", []string{"x:A = a, y:C = l(a, b)", "x:A = l(a, a), y:C = b"}},
		{"l(x:A, y:B)", "l(a, a, b)", []string{"x:A = l(a, a), y:B = b"}},
		{"l(x:A, y:C)", "l(a, b, b)", []string{"x:A = a, y:C = l(b, b)"}},
		{"l(x:C, x:C)", "l(a, b, a, b)", []string{"x:C = l(a, b)"}},
		{"l(x:C, x:C)", "l(a, b, b, a)", nil},
		{"l(x:C, b, y:C)", "l(a, b, b, a)", []string{"x:C = a, y:C = l(b, a)", "x:C = l(a, b), y:C = a"}},
		{"l(x:C, y:C, z:C)", "l(b, a)", nil},
		{"l(x:C, y:C, z:C)", "l(a, b, a, b)", []string{"x:C = a, y:C = b, z:C = l(a, b)", "x:C = a, y:C = l(b, a), z:C = b", "x:C = l(a, b), y:C = a, z:C = b"}},
		{"x:C", "l(a, b, a)", []string{"x:C = l(a, b, a)"}},
		{"x:A", "l(a, b, a)", nil},
		{"g(x:C)", "g(l(a, b))", []string{"x:C = l(a, b)"}},
		// One that is commutative as well: values can be applications to any Args.
		{"m(x:C, y:C)", "m(a, b)", []string{"x:C = a, y:C = b", "x:C = b, y:C = a"}},
		{"m(x:C, y:C)", "m(a, a, b)", []string{"x:C = a, y:C = m(a, b)", "x:C = b, y:C = m(a, a)", "x:C = m(a, a), y:C = b", "x:C = m(a, b), y:C = a"}},
		{"m(x:B, y:C)", "m(a, a, b)", []string{"x:B = b, y:C = m(a, a)", "x:B = m(a, b), y:C = a"}},
		{"m(x:B, y:A)", "m(a, a, b)", []string{"x:B = m(a, b), y:A = a"}},
		{"m(x:C, x:C, y:C)", "m(a, a, b)", []string{"x:C = a, y:C = b"}},
		{"m(x:C, x:C)", "m(a, a, b, b)", []string{"x:C = m(a, b)"}},
		{"m(x:C, x:C)", "m(a, a, b)", nil},
		{"m(x:C, b)", "m(a, a, b)", []string{"x:C = m(a, a)"}},
		{"m(x:C, g(y:A))", "m(b, g(a), g(g(a)))", []string{"x:C = m(b, g(a)), y:A = g(a)", "x:C = m(b, g(g(a))), y:A = a"}},
		// A variable can stand for the Unit.
		{"u(x:C, y:C)", "b", []string{"x:C = a, y:C = b", "x:C = b, y:C = a"}},
		{"u(x:C, y:C)", "a", []string{"x:C = a, y:C = a"}},
		{"u(x:B, y:C)", "b", []string{"x:B = b, y:C = a"}},
		{"u(x:B, y:B)", "b", nil},
		{"u(x:C, x:C)", "b", nil},
		{"u(x:C, x:C)", "a", []string{"x:C = a"}},
		{"u(x:C, y:C)", "u(b, g(a))", []string{"x:C = a, y:C = u(b, g(a))", "x:C = b, y:C = g(a)", "x:C = u(b, g(a)), y:C = a"}},
		{"u(x:C, y:C)", "u(g(a), b)", []string{"x:C = g(a), y:C = b"}},
		{"u(x:B, y:C)", "u(b, b)", []string{"x:B = b, y:C = b"}},
		{"u(x:C, y:C)", "u(b, b)", []string{"x:C = a, y:C = u(b, b)", "x:C = b, y:C = b", "x:C = u(b, b), y:C = a"}},
		{"v(x:C, y:C)", "v(b, g(a))", []string{"x:C = a, y:C = v(b, g(a))", "x:C = b, y:C = g(a)", "x:C = g(a), y:C = b", "x:C = v(b, g(a)), y:C = a"}},
		{"w(x:C, y:C)", "w(a, a)", []string{"x:C = a, y:C = a", "x:C = b, y:C = w(a, a)", "x:C = w(a, a), y:C = b"}},
		{"w(x:C, y:C)", "a", []string{"x:C = a, y:C = b", "x:C = b, y:C = a"}},
		{"w(x:C, a, y:C)", "a", []string{"x:C = b, y:C = b"}},
		{"w(x:C, a, y:C)", "b", nil},
		{"z(x:C, y:C)", "b", []string{"x:C = a, y:C = b", "x:C = b, y:C = a"}},
		{"z(x:C, y:C)", "z(b, b)", []string{"x:C = a, y:C = z(b, b)", "x:C = b, y:C = b", "x:C = z(b, b), y:C = a"}},
		{"z(x:C, x:C)", "z(b, b)", []string{"x:C = b"}},
		{"z(x:C, b)", "b", []string{"x:C = a"}},
		{"z(x:B, b)", "b", nil},
		{"z(x:C, y:C)", "c(a, b)", []string{"x:C = a, y:C = c(a, b)", "x:C = c(a, b), y:C = a"}},
		{"g(z(x:C, y:C))", "g(b)", []string{"x:C = a, y:C = b", "x:C = b, y:C = a"}},
		{"g(z(x:C, b))", "b", nil},
		// What a Unit leaves can be put together with what is around it.
		{"l(z(x:C, y:C), b)", "l(a, g(a), b)", []string{"x:C = a, y:C = l(a, g(a))", "x:C = l(a, g(a)), y:C = a"}},
		{"m(y:C, u(x:C, y:C))", "m(a, b, b)", []string{"x:C = m(b, b), y:C = a"}},
		{"w(z(x:C, y:C), a)", "a", []string{"x:C = a, y:C = b", "x:C = b, y:C = a"}},
		{"w(z(x:C, y:C), x:C)", "a", []string{"x:C = a, y:C = b"}},
		{"z(b, w(x:C, y:C))", "b", []string{"x:C = a, y:C = b", "x:C = b, y:C = a"}},
		{"z(b, w(x:C, y:C))", "z(b, b)", []string{"x:C = b, y:C = b"}},
		{"h(x:C, z(x:C, y:C))", "h(b, b)", []string{"x:C = b, y:C = a"}},
	}
}

// checkCase checks the matches that a function gives.
func checkCase(t *testing.T, s impl.Signature, c matchCase, got [][]impl.Binding, ok bool) {
	t.Helper()
	texts := []string{}
	for _, list := range got {
		texts = append(texts, impl.FormatSubstitution(s, list))
	}
	if !ok || !slices.Equal(texts, c.want) {
		t.Errorf("the matches of %s with %s are %q, %v, want %q", c.p, c.tree, texts, ok, c.want)
	}
}

func TestReferenceMatches(t *testing.T) {
	s := formSignature()
	f := matchTextFor(s)
	for _, c := range formCases() {
		p, x := treeOf(s, c.p), treeOf(s, c.tree)
		got, ok := impl.ReferenceMatches(s, p, x)
		checkCase(t, s, c, got, ok)
		checkTrial(t, f, p, x)
	}
}

// groupSignature gives the Unit e, and operators for terms and patterns with as many candidates and variables as are asked for.
func groupSignature() impl.Signature {
	return signatureOf(chainSorts(), "e -A; f A-A; u AA-A assoc comm unit=1; w AA-A assoc comm unit=1")
}

// variableList gives different variables in ascending order.
func variableList(letter string, count, sort int) []impl.Term {
	list := []impl.Term{}
	for i := range count {
		list = append(list, variableOf(fmt.Sprintf("%s%02d", letter, i), sort))
	}
	return list
}

// withCandidates gives a term of groupSignature that has this number of candidates, the Unit among them.
// It is an application of u to different parts, or the only one, and a number of f are around it.
func withCandidates(number int) (parts, around int, x impl.Term) {
	if number == 1 {
		return 0, 0, apply(0)
	}
	parts = 1
	for parts < 7 && 2<<parts <= number {
		parts++
	}
	around = number - 1<<parts
	x = apply(2, variableList("v", parts, 0)...)
	if parts == 1 {
		x = x.Args[0]
	}
	return parts, around, chainOf(1, around, x)
}

// withVariables gives a pattern of groupSignature with this number of different variables, with a number of f around it.
// They are below u, those that are too many for it below w inside of it.
func withVariables(number, around int) impl.Term {
	list := variableList("x", number, 0)
	p := apply(2)
	for len(p.Args)+len(list) > 7 {
		count := min(7, len(list)+len(p.Args)-6)
		p.Args = append(p.Args, apply(3, list[:count]...))
		list = list[count:]
	}
	p.Args = append(list, p.Args...)
	if number == 1 {
		p = p.Args[0]
	}
	return chainOf(1, around, p)
}

// The number of candidates to the power of the number of variables is at most MaxTrials, also where it is a number of very many digits.
func TestNumberOfTrials(t *testing.T) {
	s := groupSignature()
	count := map[bool]int{}
	for candidates := 1; candidates <= 144; candidates++ {
		parts, around, x := withCandidates(candidates)
		if around > 16 {
			continue
		}
		if got := len(impl.CandidateTerms(s, x)); got != candidates {
			t.Fatalf("%v has %d candidates, want %d", x, got, candidates)
		}
		trials := 1
		for variables := 1; variables <= 36; variables++ {
			trials = min(20001, trials*candidates)
			p := withVariables(variables, around)
			got, ok := impl.ReferenceMatches(s, p, x)
			// Each part goes to one of the variables; more than 8 bindings are no substitution.
			want := 1
			for range parts {
				want *= variables
			}
			if trials > 20000 || variables > 8 {
				want = 0
			}
			if !impl.IsTerm(s, p) || ok != (trials <= 20000) || len(got) != want {
				t.Fatalf("ReferenceMatches(%v, %v) has %d matches, %v, want %d", p, x, len(got), ok, want)
			}
			count[ok]++
		}
	}
	if count[true] < 200 || count[false] < 500 {
		t.Error("too few of one kind:", count)
	}
}

// The greatest number of candidates for each number of variables.
func TestNumberOfTrialsAtTheLimit(t *testing.T) {
	s := groupSignature()
	for variables, most := range map[int]int{2: 141, 3: 27, 4: 11, 5: 7, 6: 5, 7: 4, 8: 3, 9: 3, 10: 2, 11: 2, 12: 2, 13: 2, 14: 2, 15: 1, 16: 1, 36: 1} {
		for candidates := max(1, most-1); candidates <= most+2; candidates++ {
			_, around, x := withCandidates(candidates)
			got, ok := impl.ReferenceMatches(s, withVariables(variables, around), x)
			if ok != (candidates <= most) || len(got) > 0 != (ok && variables <= 8) {
				t.Errorf("%d variables and %d candidates: %d matches, %v", variables, candidates, len(got), ok)
			}
		}
	}
	// With one variable or none, no term has too many candidates.
	_, _, x := withCandidates(142)
	v := variableOf("v", 0)
	checkMatches(t, s, v, x, [][]impl.Binding{{{Var: v, To: x}}}, true)
	checkMatches(t, s, apply(0), x, nil, true)
	checkNoMatching(t, s, x, x)
}

// manyCandidates gives a term of limitSignature that has very many parts and groups.
func manyCandidates() impl.Term {
	x := apply(6)
	for i := range 6 {
		x.Args = append(x.Args, apply(3, apply(8, variableList(string(rune('g'+i)), 7, 0)...)))
	}
	return x
}

func TestMostCandidates(t *testing.T) {
	s := limitSignature()
	x := manyCandidates()
	checkIsTerm(t, s, x, true)
	checkCandidates(t, s, x, matchTextFor(s).candidates(x))
	// The variables, the groups of them, what f is applied to these, the groups of this, and the Unit.
	if got := len(impl.CandidateTerms(s, x)); got != 42+6*120+6+57+1 {
		t.Error(got)
	}
	v := variableOf("v", 0)
	checkMatches(t, s, v, x, [][]impl.Binding{{{Var: v, To: x}}}, true)
	checkMatches(t, s, apply(5, v, v), x, nil, true)
	checkMatches(t, s, apply(0), x, nil, true)
	checkNoMatching(t, s, apply(5, v, variableOf("w", 0)), x)
	checkNoMatching(t, s, x, x)
}

// Different variables and different candidates are counted, whatever their sorts are.
func TestWhatIsCounted(t *testing.T) {
	s := signatureOf(chainSorts(), "a -A; b -C; f CC-C; m AA-A CC-C assoc comm; l CC-C assoc; g AA-A; n A-A C-C")
	for sort := range 3 {
		inside := apply(3, variableList("v", 7, sort)...)
		fits, exceeds := chainOf(6, 14, inside), chainOf(6, 15, inside)
		if len(impl.CandidateTerms(s, fits)) != 141 || len(impl.CandidateTerms(s, exceeds)) != 142 {
			t.Fatal(len(impl.CandidateTerms(s, fits)), len(impl.CandidateTerms(s, exceeds)))
		}
		for _, text := range []string{"f(x:A, y:A)", "f(x:A, x:B)", "f(y:C, x:C)", "f(x:B, y:B)", "m(x:A, x:A, x:A, y:A, y:A, y:A)", "f(x:C, l(y:C, x:C, y:C))"} {
			checkMatches(t, s, treeOf(s, text), fits, nil, true)
			checkNoMatching(t, s, treeOf(s, text), exceeds)
		}
		for _, text := range []string{"f(x:A, f(y:A, z:A))", "f(x:A, f(x:B, x:C))", "m(x:A, x:B, x:C)"} {
			checkNoMatching(t, s, treeOf(s, text), fits)
			checkNoMatching(t, s, treeOf(s, text), exceeds)
		}
		for _, text := range []string{"f(x:A, x:A)", "m(x:C, x:C, x:C, x:C, x:C, x:C, x:C)", "a", "f(a, b)"} {
			checkMatches(t, s, treeOf(s, text), fits, nil, true)
			checkMatches(t, s, treeOf(s, text), exceeds, nil, true)
		}
		x := variableOf("x", 2)
		checkMatches(t, s, x, exceeds, [][]impl.Binding{{{Var: x, To: exceeds}}}, true)
	}
	// Equal Args make few candidates: b, and the groups of 2 to 7.
	same := apply(3, slices.Repeat([]impl.Term{apply(1)}, 7)...)
	for text, count := range map[string]int{"x:C": 1, "m(x:C, y:C)": 6, "m(x:C, y:C, z:C)": 15, "m(v:C, x:C, y:C, z:C)": 20, "m(v:C, w:C, x:C, y:C, z:C)": 15} {
		if got, ok := impl.ReferenceMatches(s, treeOf(s, text), same); !ok || len(got) != count {
			t.Errorf("%s has %d matches, %v", text, len(got), ok)
		}
	}
	checkNoMatching(t, s, treeOf(s, "m(u:C, v:C, w:C, x:C, y:C, z:C)"), same)
}

// oneIsBound gives the bindings of all variables to the Unit, but for one of them.
func oneIsBound(variables []impl.Term, place int, to impl.Term) []impl.Binding {
	list := []impl.Binding{}
	for _, x := range variables {
		list = append(list, impl.Binding{Var: x, To: apply(0)})
	}
	list[place].To = to
	return list
}

// A match has as many bindings as a substitution may have, and there is none with more.
func TestMatchesOfManyVariables(t *testing.T) {
	s := groupSignature()
	e, v := apply(0), variableOf("v", 0)
	for count := 1; count <= 36; count++ {
		p, variables := withVariables(count, 0), variableList("x", count, 0)
		units, bound := [][]impl.Binding{oneIsBound(variables, 0, e)}, [][]impl.Binding{}
		// A variable is less than the Unit.
		for place := range count {
			bound = append(bound, oneIsBound(variables, place, v))
		}
		if count > impl.MaxBindings {
			units, bound = nil, nil
		}
		checkMatches(t, s, p, e, units, true)
		checkMatches(t, s, p, v, bound, count < 15)
	}
}

func TestMatchingOfTermsAtTheLimits(t *testing.T) {
	s := limitSignature()
	f := matchTextFor(s)
	a, x, y := apply(0), variableOf("x", 0), variableOf("y", 0)
	for _, tree := range []impl.Term{treeOfSize(60), apply(3, treeOfSize(59)), chainOf(3, 19, a), chainOf(3, 19, y), apply(6, slices.Repeat([]impl.Term{x}, 7)...)} {
		checkIsTerm(t, s, tree, true)
		checkCandidates(t, s, tree, f.candidates(tree))
		checkMatches(t, s, x, tree, [][]impl.Binding{{{Var: x, To: tree}}}, true)
		checkMatches(t, s, a, tree, nil, true)
		checkMatches(t, s, tree, a, nil, true)
		own := []impl.Binding{}
		for _, v := range impl.VariablesOf(tree) {
			own = append(own, impl.Binding{Var: v, To: v})
		}
		checkMatches(t, s, tree, tree, [][]impl.Binding{own}, true)
	}
	for _, tree := range []impl.Term{treeOfSize(61), apply(3, treeOfSize(60)), chainOf(3, 20, a), chainOf(3, 20, y), apply(6, slices.Repeat([]impl.Term{x}, 8)...)} {
		checkIsTerm(t, s, tree, false)
		checkNoCandidates(t, s, tree)
	}
	// What would be no term is no match, and the other assignments are tried all the same.
	for _, c := range []struct {
		p, tree impl.Term
		want    [][]impl.Binding
	}{
		{apply(4, x, x), apply(4, treeOfSize(58), a), nil},
		{apply(4, y, apply(4, x, x)), apply(4, treeOfSize(54), apply(4, a, a)), [][]impl.Binding{{{Var: x, To: a}, {Var: y, To: treeOfSize(54)}}}},
		{apply(4, x, apply(4, x, y)), apply(4, a, apply(4, a, chainOf(3, 17, a))), [][]impl.Binding{{{Var: x, To: a}, {Var: y, To: chainOf(3, 17, a)}}}},
		{chainOf(3, 10, x), chainOf(3, 19, y), [][]impl.Binding{{{Var: x, To: chainOf(3, 9, y)}}}},
		{apply(5, x, y, x), apply(5, x, y, x, y, x, a, a), nil},
		{apply(5, x, y, x), apply(5, a, y, a, y, x, a, y), [][]impl.Binding{{{Var: x, To: apply(5, a, y)}, {Var: y, To: apply(5, a, y, x)}}}},
		{apply(5, x, a, a), apply(5, x, y, x, y, x, a, a), [][]impl.Binding{{{Var: x, To: apply(5, x, y, x, y, x)}}}},
	} {
		checkMatches(t, s, c.p, c.tree, c.want, true)
	}
}

func TestMatchingOfNoTerms(t *testing.T) {
	s := formSignature()
	for _, x := range append(noTerms(), impl.Term{Op: -7}, impl.Term{Op: -2}, impl.Term{Op: -1}, impl.Term{Name: "a"}, treeOf(s, "z(a, x:C)"), apply(6, leavesOf(8)...)) {
		checkNoCandidates(t, s, x)
	}
	// The pattern is looked at as well where it has no variables.
	for _, x := range treesOf(s, "x:A; a; d; g(a); c(a, b); h(a, b); l(a, b, a); m(a, b); u(b, b); v(b, b); w(a, a); z(b, b); q(a, b); k(d, a, d)") {
		for _, wrong := range unformedTrees() {
			checkNoMatching(t, s, wrong, x)
			checkNoMatching(t, s, x, wrong)
		}
	}
}

func TestMatchingInInvalidSignatures(t *testing.T) {
	right := formSignature()
	broken := append(brokenSignatures(), impl.Signature{Sorts: sortsOf(1, ""), Ops: make([]impl.Op, 1000000)})
	for _, s := range broken {
		for _, x := range append(treesOf(right, "x:A; x:C; a; d; g(a); l(a, b, a); m(a, b); z(b, b); z(x:A, y:A); q(a, b)"), impl.Term{}, impl.Term{Op: -1}) {
			checkNoCandidates(t, s, x)
		}
	}
}

// A nil slice and an empty one are the same list of Args.
func TestMatchingWithEmptySlices(t *testing.T) {
	s := formSignature()
	a, x := apply(0), variableOf("x", 0)
	for _, args := range [][]impl.Term{nil, {}, make([]impl.Term, 3)[:0]} {
		emptyA, emptyX := impl.Term{Op: 0, Args: args}, impl.Term{Op: -1, Name: "x", Sort: 0, Args: args}
		checkCandidates(t, s, emptyA, []impl.Term{a, apply(1)})
		checkCandidates(t, s, emptyX, []impl.Term{x, a, apply(1)})
		checkCandidates(t, s, apply(6, emptyA, a, emptyX), []impl.Term{x, a, apply(1), apply(6, a, x), apply(6, a, a), apply(6, a, a, x)})
		checkMatches(t, s, emptyX, emptyA, [][]impl.Binding{{{Var: x, To: a}}}, true)
		checkMatches(t, s, apply(4, emptyX, x), apply(4, emptyA, a), [][]impl.Binding{{{Var: x, To: a}}}, true)
		checkMatches(t, s, emptyA, a, [][]impl.Binding{{}}, true)
		checkMatches(t, s, a, emptyA, [][]impl.Binding{{}}, true)
		checkMatches(t, s, apply(1), emptyA, nil, true)
	}
	variables := impl.Signature{Sorts: sortsOf(2, "AB"), Ops: []impl.Op{}}
	checkCandidates(t, variables, x, []impl.Term{x})
	checkMatches(t, variables, variableOf("y", 1), x, [][]impl.Binding{{{Var: variableOf("y", 1), To: x}}}, true)
	checkMatches(t, variables, x, variableOf("y", 1), nil, true)
}

// Deep trees, and values that contain themselves, are no terms, and there is an answer all the same.
func TestMatchingOfGreatTrees(t *testing.T) {
	defer debug.SetMaxStack(debug.SetMaxStack(1 << 22))
	s := formSignature()
	a, x := apply(0), variableOf("x", 0)
	for _, tree := range endlessTrees() {
		for _, p := range []impl.Term{tree, apply(3, tree), apply(11, a, tree)} {
			if list := impl.CandidateTerms(s, p); len(list) > 0 {
				t.Fatal("candidates of a tree without an end, with the operator", tree.Op)
			}
			for _, pair := range [][2]impl.Term{{p, a}, {a, p}, {x, p}, {p, x}, {p, p}} {
				if got, ok := impl.ReferenceMatches(s, pair[0], pair[1]); ok || got != nil {
					t.Fatal("matches of a tree without an end, with the operator", tree.Op)
				}
			}
		}
	}
}

// checkContained checks that the candidates of a term are ascending terms, with all parts of the term and their candidates among them.
func checkContained(t *testing.T, f matchesByText, x impl.Term) {
	t.Helper()
	list := impl.CandidateTerms(f.s, x)
	keys := keysOf(list)
	for i, candidate := range list {
		if i > 0 && keys[i-1] >= keys[i] || !impl.IsTerm(f.s, candidate) {
			t.Fatalf("%v of the candidates %v of %v in %+v", candidate, list, x, f.s)
		}
	}
	for _, part := range partsByText(x) {
		for _, inner := range append(impl.CandidateTerms(f.s, part), part) {
			if _, found := slices.BinarySearch(keys, orderKey(inner)); !found {
				t.Fatalf("%v is no candidate of %v in %+v", inner, x, f.s)
			}
		}
	}
}

// Candidates contain the term and its parts.
func TestCandidatesContainTheTermAndItsParts(t *testing.T) {
	source := rand.New(rand.NewSource(60))
	groups := 0
	for range 3000 {
		bindings, x := randomInstance(source, 5)
		f := matchesByText{bindings}
		checkContained(t, f, x)
		for _, tree := range []impl.Term{x, spoiltTree(source, x), scrambled(source, f.formsByText, x)} {
			checkCandidates(t, f.s, tree, f.candidates(tree))
		}
		if len(impl.CandidateTerms(f.s, x)) > len(partsByText(x))+4 {
			groups++
		}
	}
	if groups < 300 {
		t.Error("only", groups)
	}
}

// checkEachMatch checks that lists are ascending, and each one a substitution for exactly the variables of p that makes x of it.
func checkEachMatch(t *testing.T, f matchesByText, p, x impl.Term, lists [][]impl.Binding) {
	t.Helper()
	candidates := keysOf(f.candidates(x))
	for i, list := range lists {
		variables := []impl.Term{}
		for _, b := range list {
			variables = append(variables, b.Var)
			if !slices.Contains(candidates, orderKey(b.To)) {
				t.Fatalf("%v of a match of %v with %v in %+v is no candidate", b.To, p, x, f.s)
			}
		}
		if !slices.Equal(keysOf(variables), keysOf(variablesByText(p))) || i > 0 && bindingsKey(lists[i-1]) >= bindingsKey(list) {
			t.Fatalf("%v of the matches of %v with %v in %+v", list, p, x, f.s)
		}
		checkApply(t, f.s, list, p, x, true)
	}
}

// variableFor gives a variable that can stand for a term, or nearly always.
func variableFor(source *rand.Rand, f matchesByText, t impl.Term) impl.Term {
	name := []string{"x", "y", "z"}[source.Intn(3)]
	sorts := elementsByDivision(f.sortsOf(t))
	if len(sorts) == 0 || source.Intn(12) == 0 {
		return variableOf(name, source.Intn(len(f.kinds)))
	}
	return variableOf(name, sorts[source.Intn(len(sorts))])
}

// generalized gives a tree in which variables stand for some parts of t, for groups of Args, and for Units that are put in.
func generalized(source *rand.Rand, f matchesByText, t impl.Term) impl.Term {
	if t.Op == -1 || source.Intn(4) == 0 {
		return variableFor(source, f, t)
	}
	args := []impl.Term{}
	for _, arg := range t.Args {
		args = append(args, generalized(source, f, arg))
	}
	if f.s.Ops[t.Op].Assoc {
		for len(args) > 2 && source.Intn(3) > 0 {
			place := source.Intn(len(args) - 1)
			args = slices.Replace(args, place, place+2, variableFor(source, f, apply(t.Op, t.Args[:2]...)))
		}
	}
	p := withArgs(t, args...)
	for i, op := range f.s.Ops {
		if op.Unit > 0 && f.kindOf(apply(i)) == f.kindOf(t) && source.Intn(10) == 0 {
			p = apply(i, p, variableFor(source, f, apply(op.Unit-1)))
		}
	}
	return p
}

// signatureOfMatches gives a signature with some operators that have axioms.
func signatureOfMatches(source *rand.Rand) impl.Signature {
	switch source.Intn(8) {
	case 0:
		return sortedSignature(source)
	case 1:
		return randomForms(source).s
	case 2, 3:
		return formSignature()
	}
	return oneKind(source.Intn(12), source.Intn(12))
}

// randomMatching gives a signature, a pattern and a term, which often match.
func randomMatching(source *rand.Rand) (f matchesByText, p, x impl.Term) {
	for {
		f = matchTextFor(signatureOfMatches(source))
		tree := apply(source.Intn(len(f.s.Ops)))
		count := len(f.s.Ops[tree.Op].Decls[0].Args)
		if count < 2 && source.Intn(20) > 0 {
			continue
		}
		if f.s.Ops[tree.Op].Assoc {
			count += source.Intn(4)
		}
		for i := range count {
			tree.Args = append(tree.Args, treeOfKind(source, f.formsByText, f.argumentKind(tree.Op, i), 1+source.Intn(3)))
		}
		x, ok := f.canonicalTerm(tree)
		if !ok {
			continue
		}
		p, ok := f.canonicalTerm(generalized(source, f, x))
		if ok && (p.Op >= 0 || source.Intn(10) == 0) {
			return f, p, x
		}
	}
}

// The matches of patterns that variables in a term give are those that the text says.
func TestMatchesOfRandomPatterns(t *testing.T) {
	source := rand.New(rand.NewSource(61))
	count := [3]int{}
	for range 4000 {
		f, p, x := randomMatching(source)
		if f.trials(p, x) <= 500 {
			count[min(2, checkTrial(t, f, p, x))]++
		}
		spoilt := spoiltTree(source, p)
		if f.trials(spoilt, x) <= 100 {
			checkTrial(t, f, spoilt, x)
		}
		got, ok := impl.ReferenceMatches(f.s, p, x)
		if ok != (f.trials(p, x) <= 20000) || !ok && got != nil {
			t.Fatalf("ReferenceMatches(%+v, %v, %v) = %v, %v", f.s, p, x, got, ok)
		}
		checkEachMatch(t, f, p, x, got)
	}
	if slices.Min(count[:]) < 200 {
		t.Error("too few of one kind:", count)
	}
}

// Every pattern matches its instances, with the values that were put in.
func TestPatternsMatchTheirInstances(t *testing.T) {
	source := rand.New(rand.NewSource(62))
	count := map[bool]int{}
	for range 4000 {
		f, p, _ := randomMatching(source)
		list := []impl.Binding{}
		for _, v := range impl.VariablesOf(p) {
			list = append(list, impl.Binding{Var: v, To: randomValue(source, f.bindingsByText, v.Sort)})
		}
		x, ok := impl.ApplySubstitution(f.s, list, p)
		if !ok || f.trials(p, x) > 20000 {
			continue
		}
		got, ok := impl.ReferenceMatches(f.s, p, x)
		if !ok || !slices.Contains(listKeys(got), bindingsKey(list)) {
			t.Fatalf("ReferenceMatches(%+v, %v, %v) = %v, %v, without %v", f.s, p, x, got, ok, list)
		}
		checkEachMatch(t, f, p, x, got)
		count[len(got) > 1]++
	}
	if count[true] < 300 || count[false] < 1000 {
		t.Error("too few of one kind:", count)
	}
}

// withY gives a tree in which y:A stands for the constant a of oneSort.
func withY(t impl.Term) impl.Term {
	if t.Op == 1 {
		return variableOf("y", 0)
	}
	args := []impl.Term{}
	for _, arg := range t.Args {
		args = append(args, withY(arg))
	}
	return withArgs(t, args...)
}

// smallPatterns gives all terms of oneSort that have at most that many nodes, with x:A, and with y:A in place of a.
func smallPatterns(s impl.Signature, most int) []impl.Term {
	list := smallTerms(s, most)
	for _, x := range smallTerms(s, most) {
		if form, ok := impl.CanonicalTerm(s, withY(x)); ok {
			list = append(list, form)
		}
	}
	return inOrder(list)
}

// checkSmallMatching checks the matches of small patterns for a choice of axioms: as values, all ground terms that are not larger than a term are tried.
func checkSmallMatching(t *testing.T, choice int, check func(t *testing.T, s impl.Signature, p, x impl.Term, want [][]impl.Binding, wantOk bool)) {
	t.Helper()
	s := oneSort(choice)
	values := inOrder(slices.DeleteFunc(smallTerms(s, 4), func(x impl.Term) bool { return !impl.IsGround(x) }))
	patterns, found := smallPatterns(s, 5), 0
	for _, p := range patterns {
		matches := map[string][][]impl.Binding{}
		for _, list := range assigned(impl.VariablesOf(p), func(impl.Term) []impl.Term { return values }) {
			if x, ok := impl.ApplySubstitution(s, list, p); ok {
				matches[orderKey(x)] = append(matches[orderKey(x)], list)
			}
		}
		for _, x := range values {
			check(t, s, p, x, matches[orderKey(x)], true)
			found += len(matches[orderKey(x)])
		}
	}
	if len(patterns) < 60 || len(values) < 12 || found < 100 {
		t.Error("too few with the choice", choice, len(patterns), len(values), found)
	}
}

// No match is missing, for each choice of axioms.
func TestNoMatchIsMissing(t *testing.T) {
	for choice := range 12 {
		checkSmallMatching(t, choice, checkMatches)
	}
}

// listNodes adds the memory of all lists to seen; it tells whether none was there.
func listNodes(lists [][]impl.Binding, seen map[*impl.Term]bool) bool {
	fresh := true
	for _, list := range lists[:cap(lists)] {
		fresh = bindingNodes(list, seen) && fresh
	}
	return fresh
}

// spoilLists changes all lists, in unused capacity as well.
func spoilLists(lists [][]impl.Binding) {
	for _, list := range lists[:cap(lists)] {
		spoilBindings(list)
	}
	clear(lists[:cap(lists)])
}

// Nothing of what the functions get is changed, and what they return is new, also where a value is a part of an argument.
func TestMatchingLeavesItsArguments(t *testing.T) {
	source := rand.New(rand.NewSource(63))
	found := 0
	for range 3000 {
		f, p, x := randomMatching(source)
		if f.trials(p, x) > 1000 {
			continue
		}
		p, x = roomyCopy(p), roomyCopy(x)
		// Both can be the same memory, or one a part of the other one.
		switch source.Intn(6) {
		case 0:
			p = x
		case 1:
			if len(x.Args) > 0 {
				p = x.Args[0]
			}
		case 2:
			if len(p.Args) > 0 {
				x = p.Args[0]
			}
		}
		before := wholeOf([]impl.Term{p, x})
		seen := map[*impl.Term]bool{}
		nodesIn([]impl.Term{p, x}, seen)
		candidates, matches := keysOf(impl.CandidateTerms(f.s, x)), [][]impl.Binding{}
		for range 3 {
			list := impl.CandidateTerms(f.s, x)
			matches, _ = impl.ReferenceMatches(f.s, p, x)
			found += len(matches)
			checkEachMatch(t, f, p, x, matches)
			if !slices.Equal(keysOf(list), candidates) || !nodesIn(list, seen) || !listNodes(matches, seen) {
				t.Fatalf("a result for %v and %v shares memory", p, x)
			}
			spoilTerms(list)
			spoilLists(matches)
			if !reflect.DeepEqual(wholeOf([]impl.Term{p, x}), before) {
				t.Fatalf("%v and %v, before %v", p, x, before)
			}
		}
	}
	if found < 2000 {
		t.Error("only", found)
	}
}

// A value is new in each match and for each variable, and so is each candidate.
func TestValuesOfMatchesAreNew(t *testing.T) {
	s := formSignature()
	for _, c := range []struct {
		p, tree string
		count   int
	}{
		{"x:C", "l(g(a), a, h(x:C, b))", 1},
		{"l(x:C, y:C)", "l(g(a), a, h(x:C, b))", 2},
		{"l(x:C, y:C, z:C)", "l(g(a), g(a), g(a), g(a))", 3},
		{"c(x:C, y:C)", "c(g(g(a)), g(g(a)))", 1},
		{"h(x:C, y:C)", "h(g(a), l(a, b))", 2},
		{"m(x:C, y:C)", "m(g(a), g(a), l(a, b), l(a, b))", 7},
		{"z(x:C, y:C)", "z(g(a), g(a), g(a))", 4},
		{"w(x:C, y:C)", "g(l(a, a, a))", 2},
		{"u(v(x:C, y:C), z:C)", "h(g(a), l(a, b))", 3},
	} {
		p, x := roomyCopy(treeOf(s, c.p)), roomyCopy(treeOf(s, c.tree))
		before := wholeOf([]impl.Term{p, x})
		seen := map[*impl.Term]bool{}
		nodesIn([]impl.Term{p, x}, seen)
		list, other := impl.CandidateTerms(s, x), impl.CandidateTerms(s, x)
		first, firstOk := impl.ReferenceMatches(s, p, x)
		second, secondOk := impl.ReferenceMatches(s, p, x)
		if !firstOk || !secondOk || len(first) != c.count || !slices.Equal(listKeys(first), listKeys(second)) {
			t.Fatal(c.p, c.tree, first, second)
		}
		if !nodesIn(list, seen) || !nodesIn(other, seen) || !listNodes(first, seen) || !listNodes(second, seen) {
			t.Error("shared memory:", c.p, c.tree)
		}
		want := listKeys(second[1:])
		spoilBindings(second[0])
		if !slices.Equal(listKeys(second[1:]), want) {
			t.Error("matches share memory:", c.p, c.tree)
		}
		spoilTerms(list)
		spoilLists(first)
		if !reflect.DeepEqual(wholeOf([]impl.Term{p, x}), before) {
			t.Error(p, x)
		}
	}
}

func TestMatchingLeavesTheSignature(t *testing.T) {
	s := fullSignature()
	f := matchTextFor(s)
	for _, x := range []impl.Term{apply(0), variableOf("x", 1), overSorts(1, "AB"), overSorts(1, "BBA"), overSorts(1, "BBABCAB")} {
		checkCandidates(t, s, x, f.candidates(x))
		for _, p := range []impl.Term{apply(0), variableOf("x", 2), overSorts(1, "BC"), overSorts(1, "CC"), overSorts(2, "A")} {
			checkTrial(t, f, p, x)
		}
		if !reflect.DeepEqual(withCapacity(s), withCapacity(fullSignature())) {
			t.Fatalf("%+v", withCapacity(s))
		}
	}
}
