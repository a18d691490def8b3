package tests

import (
	"fmt"
	"math/rand"
	"reflect"
	"runtime/debug"
	"slices"
	"testing"

	"loop.example/g03107/impl"
)

// modulo gives what the text of the chapter says, by trying all assignments.
func (f matchesByText) modulo(p, x impl.Term) ([][]impl.Binding, bool) {
	if !f.isTerm(p) || !f.isTerm(x) || len(variablesByText(p)) > 5 {
		return nil, false
	}
	lists := f.allMatches(p, x)
	if len(lists) > 2000 {
		return nil, false
	}
	return lists, true
}

// isMatch answers as the text of the chapter does.
func (f matchesByText) isMatch(p, x impl.Term, list []impl.Binding) bool {
	variables := []impl.Term{}
	for _, b := range list {
		variables = append(variables, b.Var)
	}
	instance, ok := f.apply(list, p)
	return ok && f.isTerm(x) && orderKey(instance) == orderKey(x) && slices.Equal(keysOf(variables), keysOf(variablesByText(p)))
}

func checkIsMatch(t *testing.T, s impl.Signature, p, x impl.Term, list []impl.Binding, want bool) {
	t.Helper()
	if got := impl.IsMatch(s, p, x, list); got != want {
		t.Fatalf("IsMatch(%+v, %v, %v, %v) = %v", s, p, x, list, got)
	}
}

// checkModulo checks MatchModulo, and that IsMatch agrees.
func checkModulo(t *testing.T, s impl.Signature, p, x impl.Term, want [][]impl.Binding, wantOk bool) {
	t.Helper()
	got, ok := impl.MatchModulo(s, p, x)
	if ok != wantOk || !slices.Equal(listKeys(got), listKeys(want)) {
		t.Fatalf("MatchModulo(%+v, %v, %v) = %v, %v, want %v, %v", s, p, x, got, ok, want, wantOk)
	}
	for _, list := range got {
		checkIsMatch(t, s, p, x, list, true)
	}
}

// checkNoModulo checks MatchModulo where an argument is not valid, or there are too many variables or matches.
func checkNoModulo(t *testing.T, s impl.Signature, p, x impl.Term) {
	t.Helper()
	checkModulo(t, s, p, x, nil, false)
}

// checkSame checks MatchModulo against ReferenceMatches, where this has an answer, and gives the number of matches.
func checkSame(t *testing.T, f matchesByText, p, x impl.Term) int {
	t.Helper()
	want, ok := impl.ReferenceMatches(f.s, p, x)
	if !ok && f.isTerm(p) && f.isTerm(x) {
		return -1
	}
	if len(want) > 2000 || len(impl.VariablesOf(p)) > 5 {
		want, ok = nil, false
	}
	checkModulo(t, f.s, p, x, want, ok)
	return len(want)
}

// checkNoMatcher checks both functions for what is no term, in place of the pattern and of the term.
func checkNoMatcher(t *testing.T, s impl.Signature, x impl.Term) {
	t.Helper()
	v := variableOf("v", 2)
	for _, other := range []impl.Term{x, variableOf("x", 0), variableOf("y", 2), apply(0), apply(3, apply(0))} {
		checkNoModulo(t, s, x, other)
		checkNoModulo(t, s, other, x)
		for _, list := range [][]impl.Binding{nil, {{Var: v, To: x}}, {{Var: v, To: other}}, {{Var: variableOf("x", 0), To: x}}, {{Var: other, To: x}}, {{Var: x, To: other}}} {
			checkIsMatch(t, s, x, other, list, false)
			checkIsMatch(t, s, other, x, list, false)
		}
	}
}

func TestLimitsOfMatching(t *testing.T) {
	if impl.MaxMatches != 2000 || impl.MaxPatternVars != 5 {
		t.Error(impl.MaxMatches, impl.MaxPatternVars)
	}
}

func TestMatchModulo(t *testing.T) {
	s := formSignature()
	f := matchTextFor(s)
	for _, c := range formCases() {
		checkTextsOfMatches(t, s, c)
		want, _ := f.modulo(treeOf(s, c.p), treeOf(s, c.tree))
		checkModulo(t, s, treeOf(s, c.p), treeOf(s, c.tree), want, true)
	}
}

// unitSignature gives operators with two different Units, of the sorts A and B, and some without one.
func unitSignature() impl.Signature {
	return signatureOf(chainSorts(), "e -A; o -B; a -A; b -B; f C-C; m CC-C BB-B AA-A assoc comm unit=1; l CC-C BB-B AA-A assoc unit=1; n CC-C BB-B AA-A assoc comm unit=2; k CC-C assoc unit=2; u CC-C unit=1; v CC-C comm unit=2; h CC-C comm; r CC-C assoc comm; s CC-C assoc")
}

// A variable can stand for a Unit, so that the pattern loses an argument.
func TestPatternsThatLoseArguments(t *testing.T) {
	s := unitSignature()
	f := matchTextFor(s)
	for _, c := range []matchCase{
		// The form that is left is a variable, or a Unit.
		{"u(x:C, y:C)", "a", []string{"x:C = e, y:C = a", "x:C = a, y:C = e"}},
		{"u(x:C, y:C)", "e", []string{"x:C = e, y:C = e"}},
		{"u(x:A, y:B)", "b", []string{"x:A = e, y:B = b"}},
		{"m(x:C, y:C, z:C)", "a", []string{"x:C = e, y:C = e, z:C = a", "x:C = e, y:C = a, z:C = e", "x:C = a, y:C = e, z:C = e"}},
		{"m(x:C, y:C, z:C)", "e", []string{"x:C = e, y:C = e, z:C = e"}},
		{"l(x:C, y:C)", "f(a)", []string{"x:C = e, y:C = f(a)", "x:C = f(a), y:C = e"}},
		{"l(x:B, y:C)", "f(a)", []string{"x:B = e, y:C = f(a)"}},
		{"l(x:B, y:B)", "f(a)", nil},
		// It is an application, of which the operator is another one.
		{"m(x:C, f(y:C))", "f(a)", []string{"x:C = e, y:C = a"}},
		{"m(x:C, f(y:C))", "a", nil},
		{"u(f(x:C), y:C)", "f(a)", []string{"x:C = a, y:C = e"}},
		{"u(x:C, f(y:C))", "u(a, f(b))", []string{"x:C = a, y:C = b"}},
		{"u(f(x:C), y:C)", "u(a, f(b))", nil},
		{"v(y:C, f(x:C))", "v(a, f(b))", []string{"x:C = b, y:C = a"}},
		{"m(x:C, l(y:C, a))", "l(b, a)", []string{"x:C = e, y:C = b"}},
		{"m(x:C, l(y:C, a))", "a", []string{"x:C = e, y:C = e"}},
		// A constant, and a variable that stays.
		{"m(x:C, a)", "a", []string{"x:C = e"}},
		{"m(x:C, a)", "b", nil},
		{"m(x:C, a)", "m(a, b)", []string{"x:C = b"}},
		{"k(x:C, a, y:C)", "a", []string{"x:C = o, y:C = o"}},
		{"k(x:C, a, y:C)", "k(a, a)", []string{"x:C = o, y:C = a", "x:C = a, y:C = o"}},
		{"k(x:C, a, y:C)", "k(b, a, a)", []string{"x:C = b, y:C = a", "x:C = k(b, a), y:C = o"}},
		{"m(x:C, a, a)", "m(a, a)", []string{"x:C = e"}},
		{"m(x:C, a, a)", "a", nil},
		// The Unit must have the sort of the variable.
		{"n(x:A, f(y:C))", "f(a)", nil},
		{"n(x:B, f(y:C))", "f(a)", []string{"x:B = o, y:C = a"}},
		{"n(x:A, y:C)", "a", []string{"x:A = a, y:C = o"}},
		{"n(x:A, y:A)", "a", nil},
		{"n(x:A, y:B)", "n(a, b)", []string{"x:A = a, y:B = b"}},
		{"v(x:A, y:A)", "v(a, a)", []string{"x:A = a, y:A = a"}},
		// All places of a variable get the Unit.
		{"m(x:C, x:C, a)", "a", []string{"x:C = e"}},
		{"m(x:C, x:C, a)", "m(a, b, b)", []string{"x:C = b"}},
		{"m(x:C, x:C, a)", "m(a, b)", nil},
		{"m(x:C, f(x:C))", "f(e)", []string{"x:C = e"}},
		{"m(x:C, f(x:C))", "m(a, f(a))", []string{"x:C = a"}},
		{"m(x:C, f(x:C))", "f(a)", nil},
		{"u(x:C, h(x:C, y:C))", "h(e, e)", []string{"x:C = e, y:C = e"}},
		{"u(x:C, h(x:C, y:C))", "h(e, a)", []string{"x:C = e, y:C = a"}},
		{"l(x:C, a, x:C)", "l(a, a, a)", []string{"x:C = a"}},
		{"l(x:C, a, x:C)", "l(b, a, a, b, a)", []string{"x:C = l(b, a)"}},
		// The same Unit of two operators.
		{"m(a, l(x:C, y:C))", "a", []string{"x:C = e, y:C = e"}},
		{"m(a, l(x:C, y:C))", "m(a, b)", []string{"x:C = e, y:C = b", "x:C = b, y:C = e"}},
		{"m(a, l(x:C, y:C))", "m(a, b, b)", []string{"x:C = e, y:C = m(b, b)", "x:C = m(b, b), y:C = e"}},
		{"m(a, l(x:C, y:C))", "m(a, l(a, b))", []string{"x:C = e, y:C = l(a, b)", "x:C = a, y:C = b", "x:C = l(a, b), y:C = e"}},
		{"m(a, l(x:C, y:C))", "m(a, b, l(a, b))", []string{"x:C = e, y:C = m(b, l(a, b))", "x:C = m(b, l(a, b)), y:C = e"}},
		{"u(l(x:C, y:C), z:C)", "l(a, b)", []string{"x:C = e, y:C = e, z:C = l(a, b)", "x:C = e, y:C = l(a, b), z:C = e", "x:C = a, y:C = b, z:C = e", "x:C = l(a, b), y:C = e, z:C = e"}},
		// Different Units.
		{"m(x:C, n(y:C, z:C))", "o", []string{"x:C = e, y:C = o, z:C = o", "x:C = o, y:C = e, z:C = o", "x:C = o, y:C = o, z:C = e"}},
		{"m(x:C, n(y:C, z:C))", "e", []string{"x:C = e, y:C = e, z:C = o", "x:C = e, y:C = o, z:C = e"}},
		{"m(x:C, n(y:C, z:C))", "a", []string{"x:C = e, y:C = o, z:C = a", "x:C = e, y:C = a, z:C = o", "x:C = a, y:C = e, z:C = o", "x:C = a, y:C = o, z:C = e"}},
		{"m(a, n(x:C, y:C))", "a", []string{"x:C = e, y:C = o", "x:C = o, y:C = e"}},
		{"m(a, n(x:C, y:C))", "m(o, a)", []string{"x:C = o, y:C = o"}},
		{"m(a, n(x:C, y:C))", "m(a, a, b)", []string{"x:C = o, y:C = m(a, b)", "x:C = m(a, b), y:C = o"}},
		{"n(m(x:C, y:C), m(x:C, z:C))", "a", []string{"x:C = e, y:C = o, z:C = a", "x:C = e, y:C = a, z:C = o"}},
		{"n(m(x:C, y:C), m(x:C, z:C))", "m(a, b)", []string{"x:C = e, y:C = o, z:C = m(a, b)", "x:C = e, y:C = m(a, b), z:C = o"}},
		{"n(m(x:C, y:C), m(x:C, z:C))", "n(a, b)", []string{"x:C = e, y:C = o, z:C = n(a, b)", "x:C = e, y:C = a, z:C = b", "x:C = e, y:C = b, z:C = a", "x:C = e, y:C = n(a, b), z:C = o"}},
		{"u(v(x:C, y:C), v(x:C, y:C))", "u(a, a)", []string{"x:C = o, y:C = a", "x:C = a, y:C = o"}},
		{"u(v(x:C, y:C), v(x:C, y:C))", "v(e, a)", nil},
		{"u(v(x:C, y:C), v(x:C, y:C))", "e", []string{"x:C = e, y:C = o", "x:C = o, y:C = e"}},
		// The Unit of another operator is a value like others.
		{"f(x:C)", "f(e)", []string{"x:C = e"}},
		{"m(x:C, y:C)", "m(o, a)", []string{"x:C = e, y:C = m(o, a)", "x:C = o, y:C = a", "x:C = a, y:C = o", "x:C = m(o, a), y:C = e"}},
		{"m(x:C, y:C)", "o", []string{"x:C = e, y:C = o", "x:C = o, y:C = e"}},
		{"h(x:C, y:C)", "h(e, o)", []string{"x:C = e, y:C = o", "x:C = o, y:C = e"}},
		{"r(x:C, y:C)", "r(e, e, o)", []string{"x:C = e, y:C = r(e, o)", "x:C = o, y:C = r(e, e)", "x:C = r(e, e), y:C = o", "x:C = r(e, o), y:C = e"}},
		{"m(y:C, f(x:C))", "f(e)", []string{"x:C = e, y:C = e"}},
		{"n(y:C, f(x:C))", "f(e)", []string{"x:C = e, y:C = o"}},
		{"n(y:C, f(x:C))", "n(e, f(e))", []string{"x:C = e, y:C = e"}},
		// What is left is put together with what is around it.
		{"m(b, n(y:C, m(x:C, a)))", "m(a, b)", []string{"x:C = e, y:C = o"}},
		{"m(b, n(y:C, m(x:C, a)))", "m(a, b, b)", []string{"x:C = b, y:C = o"}},
		{"m(b, n(y:C, m(x:C, a)))", "m(a, a, b)", []string{"x:C = a, y:C = o"}},
		{"s(u(s(x:C, a), y:C), b)", "s(a, a, b)", []string{"x:C = a, y:C = e"}},
		{"s(u(s(x:C, a), y:C), b)", "s(b, a, a, b)", []string{"x:C = s(b, a), y:C = e"}},
		{"s(u(x:C, y:C), b)", "s(a, a, b)", []string{"x:C = e, y:C = s(a, a)", "x:C = s(a, a), y:C = e"}},
		{"r(z:C, v(x:C, y:C))", "r(a, a, b)", []string{"x:C = o, y:C = a, z:C = r(a, b)", "x:C = o, y:C = b, z:C = r(a, a)", "x:C = o, y:C = r(a, a), z:C = b", "x:C = o, y:C = r(a, b), z:C = a", "x:C = a, y:C = o, z:C = r(a, b)", "x:C = b, y:C = o, z:C = r(a, a)", "x:C = r(a, a), y:C = o, z:C = b", "x:C = r(a, b), y:C = o, z:C = a"}},
		{"r(x:C, v(x:C, y:C))", "r(a, a, b)", nil},
		{"k(l(k(x:C, a), y:C), z:C)", "k(a, a)", []string{"x:C = o, y:C = e, z:C = a", "x:C = a, y:C = e, z:C = o"}},
		// What is no variable stands for one argument, also where it has lost its own ones.
		{"r(y:C, m(x:C, a))", "r(a, b, b)", []string{"x:C = e, y:C = r(b, b)"}},
		{"r(y:C, m(x:C, f(a)))", "r(a, f(a), f(a))", []string{"x:C = e, y:C = r(a, f(a))"}},
		{"s(m(x:C, f(y:C)), z:C)", "s(f(a), b, f(b))", []string{"x:C = e, y:C = a, z:C = s(b, f(b))"}},
		{"s(z:C, m(x:C, f(y:C)))", "s(f(a), b, f(b))", []string{"x:C = e, y:C = b, z:C = s(f(a), b)"}},
		{"r(u(x:C, y:C), u(y:C, x:C))", "r(a, a)", []string{"x:C = e, y:C = a", "x:C = a, y:C = e"}},
		{"r(u(x:C, y:C), u(y:C, x:C))", "r(a, a, b, b)", []string{"x:C = e, y:C = r(a, b)", "x:C = r(a, b), y:C = e"}},
		// Two variables lose their places to one term, in both orders.
		{"h(u(x:C, a), u(b, y:C))", "h(a, b)", []string{"x:C = e, y:C = e"}},
		{"h(u(x:C, a), u(b, y:C))", "h(a, u(b, b))", []string{"x:C = e, y:C = b"}},
		{"h(u(x:C, y:C), u(y:C, z:C))", "h(a, b)", []string{"x:C = a, y:C = e, z:C = b", "x:C = b, y:C = e, z:C = a"}},
		{"h(u(x:C, y:C), u(y:C, z:C))", "h(a, a)", []string{"x:C = e, y:C = a, z:C = e", "x:C = a, y:C = e, z:C = a"}},
	} {
		checkTextsOfMatches(t, s, c)
		want, _ := f.modulo(treeOf(s, c.p), treeOf(s, c.tree))
		checkModulo(t, s, treeOf(s, c.p), treeOf(s, c.tree), want, true)
	}
}

// checkTextsOfMatches checks what MatchModulo gives for a case.
func checkTextsOfMatches(t *testing.T, s impl.Signature, c matchCase) {
	t.Helper()
	got, ok := impl.MatchModulo(s, treeOf(s, c.p), treeOf(s, c.tree))
	checkCase(t, s, c, got, ok)
}

// All ways to apply an operator with a Unit to another one are matched with the same terms, the Units among them.
func TestUnitsBelowUnits(t *testing.T) {
	s := unitSignature()
	f := matchTextFor(s)
	x, y := variableOf("x", 2), variableOf("y", 2)
	terms := treesOf(s, "e; o; a; b; f(e); f(a); m(a, b); m(o, a); n(a, b); n(e, a); l(a, b); k(a, a); u(a, b); u(o, a); v(e, b); h(e, o); r(a, b); s(b, a); m(a, b, n(a, b)); k(a, l(a, b)); n(a, l(b, a), k(a, b))")
	found := 0
	for outer := 5; outer <= 10; outer++ {
		for inner := 5; inner <= 13; inner++ {
			for _, leaves := range [][3]impl.Term{{x, y, y}, {x, y, variableOf("z", 1)}, {x, x, apply(2)}, {variableOf("x", 0), variableOf("x", 1), x}, {apply(2), x, y}} {
				p, ok := impl.MakeTerm(s, inner, leaves[:2])
				if ok {
					p, ok = impl.MakeTerm(s, outer, []impl.Term{p, leaves[2]})
				}
				if !ok {
					t.Fatal(outer, inner, leaves)
				}
				for _, term := range terms {
					found += checkSame(t, f, p, term)
				}
			}
		}
	}
	if found < 2000 {
		t.Error("only", found)
	}
}

// Seven operators with different Units are below each other, and each variable is below several of them or can come to be there.
func TestManyUnits(t *testing.T) {
	s := signatureOf(sortsOf(1, ""), "a -A; b -A; c -A; d -A; e -A; f -A; g -A; h AA-A assoc comm unit=1; i AA-A assoc unit=2; j AA-A comm unit=3; k AA-A unit=4; l AA-A assoc comm unit=5; m AA-A assoc unit=6; n AA-A unit=7")
	f := matchTextFor(s)
	found := 0
	for _, pattern := range treesOf(s, "h(w:A, i(x:A, j(y:A, z:A))); n(m(w:A, x:A), l(y:A, z:A)); k(n(w:A, x:A), n(y:A, h(z:A, z:A))); i(w:A, j(x:A, k(y:A, l(z:A, m(a, n(b, c))))))") {
		p, _ := impl.CanonicalTerm(s, pattern)
		for _, tree := range treesOf(s, "q:A; a; n(a, b); i(c, q:A); h(a, e); m(a, n(b, c)); k(q:A, m(a, n(b, c)))") {
			x, _ := impl.CanonicalTerm(s, tree)
			found += checkSame(t, f, p, x)
		}
	}
	if found < 100 {
		t.Error("only", found)
	}
	// With five variables there are too many assignments to try.
	p, q := treeOf(s, "h(v:A, i(w:A, j(x:A, k(y:A, l(z:A, m(v:A, n(w:A, x:A)))))))"), variableOf("q", 0)
	checkModulo(t, s, p, q, nil, true)
	checkModulo(t, s, p, treeOf(s, "m(a, n(b, c))"), [][]impl.Binding{bindingsOf(s, "v:A = a; w:A = b; x:A = c; y:A = d; z:A = e")}, true)
}

// A form can be too wide to be a term if Units are put in for some variables, and be one if they are put in for more.
func TestFormsThatAreTooWide(t *testing.T) {
	s := limitSignature()
	six := "f(a), f(a), f(a), f(a), f(a), f(a)"
	for _, c := range []matchCase{
		// Where z is the Unit, x and y are with six others in one application.
		{"u(f(a), f(a), w(u(x:A, y:A, f(a), f(a), f(a), f(a)), z:A))", "u(" + six + ")", []string{"x:A = a, y:A = a, z:A = a"}},
		{"u(f(a), f(a), w(u(x:A, y:A, f(a), f(a), f(a), f(a)), z:A))", "u(" + six + ", f(a))", []string{"x:A = a, y:A = f(a), z:A = a", "x:A = f(a), y:A = a, z:A = a"}},
		{"u(f(a), f(a), w(u(x:A, x:A, f(a), f(a), f(a), f(a)), z:A))", "u(" + six + ")", []string{"x:A = a, z:A = a"}},
		{"u(f(a), f(a), w(u(x:A, x:A, f(a), f(a), f(a), f(a)), z:A))", "u(" + six + ", f(a))", nil},
		{"u(f(a), f(a), f(a), w(u(x:A, y:A, f(a), f(a), f(a), f(a)), z:A))", "u(" + six + ", f(a))", []string{"x:A = a, y:A = a, z:A = a"}},
		{"u(f(a), f(a), f(a), w(u(x:A, y:A, f(a), f(a), f(a), f(a)), z:A))", "u(" + six + ")", nil},
		{"w(u(z:A, w(x:A, f(a), f(a), f(a), f(a), y:A)), f(a), f(a))", "w(" + six + ")", []string{"x:A = a, y:A = a, z:A = a"}},
		{"w(u(z:A, w(x:A, f(a), f(a), f(a), f(a), y:A)), f(a), f(a))", "w(" + six + ", f(a))", []string{"x:A = a, y:A = f(a), z:A = a", "x:A = f(a), y:A = a, z:A = a"}},
		// Where z is not the Unit, there is another form, and none where it is.
		{"u(f(a), f(a), w(u(x:A, y:A, f(a), f(a), f(a), f(a)), z:A))", "u(f(a), f(a), w(u(" + six + "), f(a)))", []string{"x:A = a, y:A = u(f(a), f(a)), z:A = f(a)", "x:A = f(a), y:A = f(a), z:A = f(a)", "x:A = u(f(a), f(a)), y:A = a, z:A = f(a)"}},
		{"u(f(a), f(a), w(u(" + six + "), z:A))", "u(f(a), f(a), w(u(" + six + "), f(a)))", []string{"z:A = f(a)"}},
		{"u(f(a), f(a), w(u(" + six + "), z:A))", "a", nil},
		{"u(f(a), f(a), w(u(x:A, " + six + "), z:A))", "a", nil},
		// Without such variables there is no match.
		{"u(f(a), f(a), w(u(f(x:A), f(a), f(a), f(a), f(a), f(a)), z:A))", "u(" + six + ", f(a))", nil},
		{"m(f(a), f(a), w(m(x:A, y:A, f(a), f(a), f(a), f(a)), z:A))", "m(" + six + ", f(a))", nil},
		{"m(f(a), w(m(x:A, y:A, f(a), f(a), f(a), f(a)), z:A))", "m(" + six + ", f(a))", []string{"x:A = f(a), y:A = f(a), z:A = a"}},
	} {
		checkTextsOfMatches(t, s, c)
	}
}

// numberedVariables gives that many different variables; some differ only in their names, others only in their sorts A, B and C.
func numberedVariables(count int) []impl.Term {
	list := []impl.Term{}
	for i := range count {
		list = append(list, variableOf(fmt.Sprint("x", i/3), i%3))
	}
	return list
}

// boundToThemselves gives the bindings of variables to themselves.
func boundToThemselves(variables []impl.Term) []impl.Binding {
	list := []impl.Binding{}
	for _, x := range variables {
		list = append(list, impl.Binding{Var: x, To: x})
	}
	return list
}

// A pattern has at most MaxPatternVars different variables, however often they occur, and whether it matches or not.
func TestNumberOfPatternVariables(t *testing.T) {
	s := limitSignature()
	a, v := apply(0), variableOf("v", 0)
	for count := 0; count <= 9; count++ {
		variables := numberedVariables(count)
		once, twice := a, a
		for _, x := range variables {
			once, twice = apply(4, once, x), apply(4, apply(4, x, twice), x)
		}
		for _, p := range []impl.Term{once, twice, apply(4, twice, once), chainOf(3, 8, once)} {
			own := boundToThemselves(variables)
			if count <= 5 {
				checkModulo(t, s, p, p, [][]impl.Binding{own}, true)
				checkModulo(t, s, p, v, nil, true)
			} else {
				checkNoModulo(t, s, p, p)
				checkNoModulo(t, s, p, v)
			}
			// The variables of the term are not counted, and IsMatch has only the limit of substitutions.
			checkModulo(t, s, apply(4, v, apply(3, a)), p, nil, true)
			checkIsMatch(t, s, p, p, own, count <= 8)
		}
	}
	// Where all can be Units, there are as many ways as variables to be the only one that is none.
	s = groupSignature()
	for count := 1; count <= 36; count++ {
		p, list := withVariables(count, 0), [][]impl.Binding{}
		for place := range count {
			list = append(list, oneIsBound(variableList("x", count, 0), place, v))
			checkIsMatch(t, s, p, v, list[place], count <= 8)
		}
		if count <= 5 {
			checkModulo(t, s, p, v, list, true)
		} else {
			checkNoModulo(t, s, p, v)
			checkNoModulo(t, s, p, a)
		}
	}
}

// countSignature gives an operator z with a Unit, whose Args can be of four sorts, each below the next one, and r and f on the greatest one.
func countSignature() impl.Signature {
	return signatureOf(sortsOf(4, "AB BC CD"), "e -A; a -A; f D-D; z AA-A BB-B CC-C DD-D assoc comm unit=1; r DD-D assoc comm")
}

// factorsOf gives at most seven of the numbers 2, 3 and 4, with the greatest product that is not greater than a limit.
func factorsOf(limit int) (product int, factors []int) {
	product = 1
	for fours := range 8 {
		for threes := range 8 - fours {
			for twos := range 8 - fours - threes {
				list := slices.Concat(slices.Repeat([]int{4}, fours), slices.Repeat([]int{3}, threes), slices.Repeat([]int{2}, twos))
				value := 1
				for _, factor := range list {
					value *= factor
				}
				if value <= limit && value > product {
					product, factors = value, list
				}
			}
		}
	}
	return product, factors
}

// withMatches gives a pattern and a term of countSignature that have this number of matches.
// For each application of f, this is a product: an argument of the sort A can be in four variables, one of B in three, and one of C in two.
func withMatches(number int) (p, x impl.Term) {
	s := countSignature()
	x = apply(4, apply(1), apply(1))
	for number > 0 {
		product, factors := factorsOf(number)
		number -= product
		inside := apply(0)
		for i, factor := range factors {
			inside, _ = impl.MakeTerm(s, 3, []impl.Term{inside, variableOf(fmt.Sprintf("q%dx%d", len(x.Args), i), 4-factor)})
		}
		x.Args = append(x.Args, apply(2, inside))
	}
	x, _ = impl.CanonicalTerm(s, x)
	return treeOf(s, "r(u:D, f(z(v:D, w:C, x:B, y:A)))"), x
}

// There are at most MaxMatches matches.
func TestNumberOfMatches(t *testing.T) {
	s := countSignature()
	numbers := []int{3000, 16384, 16385}
	for i := range 50 {
		numbers = append(numbers, i, 40*i, 1975+i)
	}
	for _, number := range numbers {
		p, x := withMatches(number)
		got, ok := impl.MatchModulo(s, p, x)
		want := number
		if number > 2000 {
			want = 0
		}
		if !impl.IsTerm(s, x) || ok != (number <= 2000) || len(got) != want || !ok && got != nil {
			t.Fatalf("MatchModulo(%v, %v) has %d matches, %v, want %d", p, x, len(got), ok, number)
		}
	}
	p, x := withMatches(2000)
	got, _ := impl.MatchModulo(s, p, x)
	checkEachMatch(t, matchTextFor(s), p, x, got)
}

// waysToShare gives in how many ways some variables can take all of a number of Args, of which each one has none only if there is a Unit.
func waysToShare(variables, args int, anyOrder, hasUnit bool) int {
	if variables == 0 {
		return max(0, 1-args)
	}
	total := 0
	for taken := range args + 1 {
		ways := waysToShare(variables-1, args-taken, anyOrder, hasUnit)
		if taken == 0 && !hasUnit {
			ways = 0
		}
		if anyOrder {
			ways *= choose(args, taken)
		}
		total += ways
	}
	return total
}

func choose(from, count int) int {
	if count == 0 {
		return 1
	}
	return choose(from-1, count-1) * from / count
}

// Variables share up to seven Args: all different, or all equal.
func TestVariablesShareArgs(t *testing.T) {
	s := limitSignature()
	for op := 5; op <= 8; op++ {
		for variables := 1; variables <= 5; variables++ {
			p := apply(op, variableList("x", variables, 0)...)
			if variables == 1 {
				p = p.Args[0]
			}
			for count := 1; count <= 7; count++ {
				different, _ := impl.CanonicalTerm(s, apply(op, variableList("q", count, 0)...))
				equal, _ := impl.CanonicalTerm(s, apply(op, slices.Repeat([]impl.Term{apply(3, apply(0))}, count)...))
				if count == 1 {
					different, equal = variableOf("q", 0), apply(3, apply(0))
				}
				hasUnit := s.Ops[op].Unit > 0
				checkCount(t, s, p, different, waysToShare(variables, count, s.Ops[op].Comm, hasUnit))
				checkCount(t, s, p, equal, waysToShare(variables, count, false, hasUnit))
			}
		}
	}
}

// checkCount checks how many matches there are.
func checkCount(t *testing.T, s impl.Signature, p, x impl.Term, want int) {
	t.Helper()
	got, ok := impl.MatchModulo(s, p, x)
	if ok != (want <= 2000) || ok && len(got) != want || !ok && got != nil {
		t.Fatalf("MatchModulo(%v, %v) has %d matches, %v, want %d", p, x, len(got), ok, want)
	}
	for i, list := range got {
		checkIsMatch(t, s, p, x, list, true)
		if i > 0 && impl.CompareSubstitutions(got[i-1], list) >= 0 {
			t.Fatalf("%v before %v", got[i-1], list)
		}
	}
}

// Only matches are counted, not the ways to match a part of the pattern, of which there can be very many.
func TestOnlyMatchesAreCounted(t *testing.T) {
	s := limitSignature()
	shared := "u(v:A, w:A, x:A, y:A, z:A)"
	args := "u(b:A, c:A, d:A, e:A, f:A, g:A, h:A)"
	for _, c := range []matchCase{
		{"p(" + shared + ", a)", "p(" + args + ", f(a))", nil},
		{"p(" + shared + ", p(v:A, w:A))", "p(" + args + ", p(b:A, b:A))", nil},
		{"p(" + shared + ", p(v:A, p(w:A, p(x:A, y:A))))", "p(" + args + ", p(b:A, p(u(c:A, d:A), p(h:A, g:A))))", []string{"v:A = b:A, w:A = u(c:A, d:A), x:A = h:A, y:A = g:A, z:A = u(e:A, f:A)"}},
		{"p(" + shared + ", p(v:A, p(w:A, p(x:A, y:A))))", "p(" + args + ", p(a, p(u(b:A, c:A, d:A, e:A, f:A, g:A), p(a, h:A))))", []string{"v:A = a, w:A = u(b:A, c:A, d:A, e:A, f:A, g:A), x:A = a, y:A = h:A, z:A = a"}},
		{"p(p(v:A, p(w:A, p(x:A, y:A))), " + shared + ")", "p(p(b:A, p(u(c:A, d:A), p(h:A, g:A))), " + args + ")", []string{"v:A = b:A, w:A = u(c:A, d:A), x:A = h:A, y:A = g:A, z:A = u(e:A, f:A)"}},
	} {
		checkTextsOfMatches(t, s, c)
	}
	checkNoModulo(t, s, treeOf(s, "p("+shared+", v:A)"), treeOf(s, "p("+args+", b:A)"))
	checkCount(t, s, treeOf(s, "p("+shared+", p(v:A, w:A))"), treeOf(s, "p("+args+", p(b:A, a))"), 729)
	checkCount(t, s, treeOf(s, "m(z:A, f(m(v:A, w:A)), f(m(x:A, y:A)))"), treeOf(s, "m(f(m(b:A, c:A, d:A)), f(m(e:A, f:A, g:A)), f(m(h:A, i:A, j:A)))"), 3*2*6*6)
	checkCount(t, s, treeOf(s, "m(f(m(v:A, w:A)), f(m(v:A, y:A)), f(m(x:A, y:A)))"), treeOf(s, "m(f(m(b:A, c:A, d:A)), f(m(e:A, f:A, g:A)), f(m(h:A, i:A, j:A)))"), 0)
}

func TestModuloOfTermsAtTheLimits(t *testing.T) {
	s := limitSignature()
	a, x, y := apply(0), variableOf("x", 0), variableOf("y", 0)
	for _, tree := range []impl.Term{treeOfSize(60), apply(3, treeOfSize(59)), chainOf(3, 19, a), chainOf(3, 19, y), apply(6, slices.Repeat([]impl.Term{x}, 7)...), manyCandidates()} {
		checkModulo(t, s, x, tree, [][]impl.Binding{{{Var: x, To: tree}}}, true)
		checkModulo(t, s, a, tree, nil, true)
		if own := boundToThemselves(impl.VariablesOf(tree)); len(own) <= 5 {
			checkModulo(t, s, tree, tree, [][]impl.Binding{own}, true)
			checkModulo(t, s, tree, a, nil, true)
		} else {
			checkNoModulo(t, s, tree, tree)
		}
	}
	for _, tree := range []impl.Term{treeOfSize(61), apply(3, treeOfSize(60)), chainOf(3, 20, a), chainOf(3, 20, y), apply(6, slices.Repeat([]impl.Term{x}, 8)...)} {
		checkNoMatcher(t, s, tree)
	}
	// The Unit makes the pattern less deep than the term may be, and the term can be as deep.
	deep := chainOf(3, 18, a)
	checkModulo(t, s, apply(7, x, apply(3, y)), deep, [][]impl.Binding{{{Var: x, To: a}, {Var: y, To: deep.Args[0]}}}, true)
	checkModulo(t, s, chainOf(3, 18, apply(7, x, y)), chainOf(3, 19, a), [][]impl.Binding{{{Var: x, To: a}, {Var: y, To: apply(3, a)}}, {{Var: x, To: apply(3, a)}, {Var: y, To: a}}}, true)
	// A substitution that makes no term of the pattern is no match.
	big := treeOfSize(30)
	checkIsMatch(t, s, apply(4, x, y), apply(4, big, treeOfSize(29)), []impl.Binding{{Var: x, To: big}, {Var: y, To: treeOfSize(29)}}, true)
	checkIsMatch(t, s, apply(4, x, y), apply(4, big, big), []impl.Binding{{Var: x, To: big}, {Var: y, To: big}}, false)
	checkIsMatch(t, s, apply(4, x, x), apply(4, big, big), []impl.Binding{{Var: x, To: big}}, false)
	checkIsMatch(t, s, chainOf(3, 10, x), chainOf(3, 20, a), []impl.Binding{{Var: x, To: chainOf(3, 10, a)}}, false)
	checkIsMatch(t, s, chainOf(3, 9, x), chainOf(3, 19, a), []impl.Binding{{Var: x, To: chainOf(3, 10, a)}}, true)
}

func TestIsMatch(t *testing.T) {
	s := formSignature()
	f := matchTextFor(s)
	for _, c := range []struct {
		p, tree, list string
		want          bool
	}{
		{"a", "a", "", true},
		{"a", "b", "", false},
		{"a", "a", "x:A = a", false},
		{"l(a, b, a)", "l(a, b, a)", "", true},
		{"x:C", "a", "x:C = a", true},
		{"x:C", "a", "x:C = b", false},
		{"x:C", "a", "x:A = a", false},
		{"x:C", "a", "y:C = a", false},
		{"x:C", "a", "", false},
		{"x:B", "a", "x:B = a", false},
		{"x:C", "x:C", "x:C = x:C", true},
		{"x:C", "x:C", "", false},
		{"x:C", "y:A", "x:C = y:A", true},
		{"x:A", "y:C", "x:A = y:C", false},
		// Exactly the variables of the pattern are bound, in ascending order.
		{"c(x:A, y:B)", "c(a, b)", "x:A = a; y:B = b", true},
		{"c(x:A, y:B)", "c(a, b)", "y:B = b; x:A = a", false},
		{"c(x:A, y:B)", "c(a, b)", "x:A = a", false},
		{"c(x:A, y:B)", "c(a, b)", "y:B = b", false},
		{"c(x:A, b)", "c(a, b)", "x:A = a; y:B = b", false},
		{"c(x:A, y:B)", "c(a, b)", "x:A = a; y:B = b; z:D = d", false},
		{"c(x:A, y:B)", "c(a, b)", "w:D = d; x:A = a; y:B = b", false},
		{"c(x:A, y:B)", "c(a, b)", "x:A = a; x:A = a; y:B = b", false},
		{"c(x:A, y:B)", "c(a, b)", "x:A = a; x:B = b; y:B = b", false},
		{"c(x:A, y:B)", "c(a, y:B)", "x:A = a", false},
		{"c(x:A, y:B)", "c(a, y:B)", "x:A = a; y:B = y:B", true},
		{"c(x:A, x:B)", "c(a, b)", "x:A = a; x:B = b", true},
		{"c(x:A, x:B)", "c(a, b)", "x:B = b; x:A = a", false},
		// All variables are replaced at the same time.
		{"c(x:A, y:A)", "c(y:A, x:A)", "x:A = y:A; y:A = x:A", true},
		{"c(x:A, y:A)", "c(x:A, x:A)", "x:A = y:A; y:A = x:A", false},
		// Axioms.
		{"h(x:C, y:C)", "h(a, b)", "x:C = a; y:C = b", true},
		{"h(x:C, y:C)", "h(a, b)", "x:C = b; y:C = a", true},
		{"h(x:C, y:C)", "h(a, b)", "x:C = b; y:C = b", false},
		{"l(x:C, y:C)", "l(a, b, a)", "x:C = l(a, b); y:C = a", true},
		{"l(x:C, y:C)", "l(a, b, a)", "x:C = a; y:C = l(a, b)", false},
		{"m(x:C, y:C)", "m(a, a, b)", "x:C = m(a, b); y:C = a", true},
		{"m(x:C, y:C)", "m(a, a, b)", "x:C = m(b, a); y:C = a", false},
		{"z(x:C, y:C)", "b", "x:C = a; y:C = b", true},
		{"z(x:C, y:C)", "b", "x:C = b; y:C = a", true},
		{"z(x:C, y:C)", "b", "x:C = b; y:C = b", false},
		{"z(x:C, y:C)", "a", "x:C = a; y:C = a", true},
		{"z(x:C, b)", "b", "x:C = a", true},
		{"z(x:B, b)", "b", "x:B = a", false},
		{"z(x:C, y:C)", "z(b, b)", "x:C = z(b, b); y:C = a", true},
		{"z(x:C, y:C)", "z(b, b)", "x:C = z(a, b); y:C = b", false},
		// Neither the pattern nor the term is brought into canonical form.
		{"h(b, a)", "h(a, b)", "", false},
		{"h(a, b)", "h(b, a)", "", false},
		{"z(x:C, a)", "b", "x:C = b", false},
		{"g(h(y:C, x:C))", "g(h(a, b))", "x:C = a; y:C = b", false},
		{"l(l(x:C, y:C), a)", "l(b, b, a)", "x:C = b; y:C = b", false},
		{"x:C", "h(b, a)", "x:C = h(a, b)", false},
		{"x:C", "h(a, b)", "x:C = h(b, a)", false},
	} {
		p, x, list := treeOf(s, c.p), treeOf(s, c.tree), bindingsOf(s, c.list)
		checkIsMatch(t, s, p, x, list, c.want)
		if f.isMatch(p, x, list) != c.want {
			t.Error("not as the text says:", c)
		}
	}
}

func TestModuloOfNoTerms(t *testing.T) {
	s := formSignature()
	for _, x := range append(noTerms(), impl.Term{Op: -7}, impl.Term{Op: -2}, impl.Term{Op: -1}, impl.Term{Name: "a"}, treeOf(s, "z(a, x:C)"), apply(6, leavesOf(8)...)) {
		checkNoMatcher(t, s, x)
	}
	for _, x := range treesOf(s, "x:A; a; d; g(a); c(a, b); h(a, b); l(a, b, a); m(a, b); u(b, b); v(b, b); w(a, a); z(b, b); q(a, b); k(d, a, d)") {
		for _, wrong := range unformedTrees() {
			checkNoModulo(t, s, wrong, x)
			checkNoModulo(t, s, x, wrong)
		}
	}
}

func TestModuloInInvalidSignatures(t *testing.T) {
	right := formSignature()
	broken := append(brokenSignatures(), impl.Signature{Sorts: sortsOf(1, ""), Ops: make([]impl.Op, 1000000)})
	for _, s := range broken {
		for _, x := range append(treesOf(right, "x:A; x:C; a; d; g(a); l(a, b, a); m(a, b); z(b, b); z(x:A, y:A); q(a, b)"), impl.Term{}, impl.Term{Op: -1}) {
			checkNoMatcher(t, s, x)
		}
	}
}

// Args that are nil and Args that are empty are the same, and so are lists of bindings.
func TestModuloWithEmptySlices(t *testing.T) {
	s := formSignature()
	a, x := apply(0), variableOf("x", 0)
	for _, args := range [][]impl.Term{nil, {}, make([]impl.Term, 3)[:0]} {
		emptyA, emptyX := impl.Term{Op: 0, Args: args}, impl.Term{Op: -1, Name: "x", Sort: 0, Args: args}
		list := [][]impl.Binding{{{Var: emptyX, To: emptyA}}}
		checkModulo(t, s, emptyX, emptyA, list, true)
		checkModulo(t, s, apply(4, emptyX, x), apply(4, emptyA, a), list, true)
		checkModulo(t, s, apply(11, x, emptyX, apply(1)), apply(1), list, true)
		checkModulo(t, s, emptyA, a, [][]impl.Binding{{}}, true)
		checkModulo(t, s, a, emptyA, [][]impl.Binding{{}}, true)
		checkModulo(t, s, apply(1), emptyA, nil, true)
		checkIsMatch(t, s, x, a, list[0], true)
		for _, none := range [][]impl.Binding{nil, {}, list[0][:0]} {
			checkIsMatch(t, s, emptyA, a, none, true)
			checkIsMatch(t, s, emptyX, a, none, false)
			checkIsMatch(t, impl.Signature{}, a, a, none, false)
		}
	}
	variables := impl.Signature{Sorts: sortsOf(2, "AB"), Ops: []impl.Op{}}
	checkModulo(t, variables, variableOf("y", 1), x, [][]impl.Binding{{{Var: variableOf("y", 1), To: x}}}, true)
	checkModulo(t, variables, x, variableOf("y", 1), nil, true)
}

// Deep trees, and values that contain themselves, are no terms, and there is an answer all the same.
func TestModuloOfGreatTrees(t *testing.T) {
	defer debug.SetMaxStack(debug.SetMaxStack(1 << 22))
	s := formSignature()
	a, x := apply(0), variableOf("x", 0)
	for _, tree := range endlessTrees() {
		for _, p := range []impl.Term{tree, apply(3, tree), apply(11, a, tree)} {
			for _, pair := range [][2]impl.Term{{p, a}, {a, p}, {x, p}, {p, x}, {p, p}} {
				if got, ok := impl.MatchModulo(s, pair[0], pair[1]); ok || got != nil {
					t.Fatal("matches of a tree without an end, with the operator", tree.Op)
				}
				for _, list := range [][]impl.Binding{nil, {{Var: x, To: a}}, {{Var: x, To: p}}, {{Var: p, To: a}}} {
					if impl.IsMatch(s, pair[0], pair[1], list) {
						t.Fatal("a match of a tree without an end, with the operator", tree.Op)
					}
				}
			}
			if impl.IsMatch(s, x, a, []impl.Binding{{Var: x, To: p}}) || impl.IsMatch(s, x, a, []impl.Binding{{Var: p, To: a}}) {
				t.Fatal("a binding of a tree without an end, with the operator", tree.Op)
			}
		}
	}
}

// Structured matching finds what trying all assignments finds.
func TestMatchingFindsWhatTrialsFind(t *testing.T) {
	source := rand.New(rand.NewSource(64))
	count := [3]int{}
	for range 2500 {
		f, p, x := randomMatching(source)
		if found := checkSame(t, f, p, x); found >= 0 {
			count[min(2, found)]++
		}
		checkSame(t, f, x, p)
		checkSame(t, f, spoiltTree(source, p), x)
		checkSame(t, f, p, spoiltTree(source, x))
	}
	if slices.Min(count[:]) < 150 {
		t.Error("too few of one kind:", count)
	}
}

// For all choices of axioms of two operators, below each other, the same matches are found.
func TestMatchingOfTwoOperators(t *testing.T) {
	found := 0
	for first := range 12 {
		for second := range 12 {
			s := oneKind(first, second)
			f := matchTextFor(s)
			patterns := treesOf(s, "m(x:B, n(y:B, z:A)); m(n(x:B, a), x:B); n(m(x:B, y:B), m(a, z:B)); m(n(m(x:B, a), y:B), y:B)")
			for _, tree := range treesOf(s, "a; e; m(a, f(a)); n(f(e), a); m(a, n(a, f(a))); n(m(a, a), m(a, f(e))); m(m(a, a), n(a, e))") {
				x, _ := impl.CanonicalTerm(s, tree)
				for _, tree := range patterns {
					p, _ := impl.CanonicalTerm(s, tree)
					found += checkSame(t, f, p, x)
				}
			}
		}
	}
	if found < 2000 {
		t.Error("only", found)
	}
}

// All ground terms that are not larger than a term are tried as values: no match is missing, for each choice of axioms.
func TestNoMatchModuloIsMissing(t *testing.T) {
	for choice := range 12 {
		checkSmallMatching(t, choice, checkModulo)
	}
}

// Every pattern matches its instances, with the values that were put in, also where there are too many assignments to try.
func TestPatternsMatchInstancesModulo(t *testing.T) {
	source := rand.New(rand.NewSource(65))
	count := map[string]int{}
	for range 3000 {
		f, p, _ := randomMatching(source)
		list := []impl.Binding{}
		for _, v := range impl.VariablesOf(p) {
			list = append(list, impl.Binding{Var: v, To: randomValue(source, f.bindingsByText, v.Sort)})
		}
		x, ok := impl.ApplySubstitution(f.s, list, p)
		if !ok || len(list) > 5 {
			continue
		}
		checkIsMatch(t, f.s, p, x, list, true)
		got, ok := impl.MatchModulo(f.s, p, x)
		if !ok {
			count["too many"]++
			continue
		}
		if !slices.Contains(listKeys(got), bindingsKey(list)) {
			t.Fatalf("MatchModulo(%+v, %v, %v) = %v, without %v", f.s, p, x, got, list)
		}
		checkEachMatch(t, f, p, x, got[:min(100, len(got))])
		_, tried := impl.ReferenceMatches(f.s, p, x)
		count[fmt.Sprint(tried, len(got) > 1)]++
	}
	if count["true true"] < 200 || count["true false"] < 500 || count["false true"] < 30 {
		t.Error("too few of one kind:", count)
	}
}

// What is changed in a match is a match exactly if the text says so.
func TestIsMatchOfChangedBindings(t *testing.T) {
	source := rand.New(rand.NewSource(66))
	count := map[bool]int{}
	for range 3000 {
		f, p, x := randomMatching(source)
		got, ok := impl.MatchModulo(f.s, p, x)
		lists := [][]impl.Binding{nil, randomBindings(source, f.bindingsByText, impl.VariablesOf(p), 4)}
		if ok && len(got) > 0 {
			list := got[source.Intn(len(got))]
			lists = append(lists, list, spoiltBindings(source, list), spoiltBindings(source, list))
		}
		for _, list := range lists {
			for _, tree := range []impl.Term{x, spoiltTree(source, x)} {
				want := f.isMatch(p, tree, list)
				checkIsMatch(t, f.s, p, tree, list, want)
				spoilt := spoiltTree(source, p)
				checkIsMatch(t, f.s, spoilt, tree, list, f.isMatch(spoilt, tree, list))
				count[want]++
			}
		}
	}
	if count[true] < 1000 || count[false] < 1000 {
		t.Error("too few of one kind:", count)
	}
}

// Nothing of what the functions get is changed, and what they return is new, also where a value is a part of an argument.
func TestModuloLeavesItsArguments(t *testing.T) {
	source := rand.New(rand.NewSource(67))
	found := 0
	for range 2000 {
		f, p, x := randomMatching(source)
		p, x = roomyCopy(p), roomyCopy(x)
		// Both can be the same memory, or one a part of the other one.
		switch source.Intn(6) {
		case 0:
			p = x
		case 1:
			if len(x.Args) > 0 {
				p = x.Args[0]
			}
		case 2:
			if len(p.Args) > 0 {
				x = p.Args[0]
			}
		}
		found += checkMemory(t, f, p, x)
	}
	if found < 2000 {
		t.Error("only", found)
	}
}

// checkMemory checks that the matches are always the same, in new memory and without a change of the arguments, and gives their number.
func checkMemory(t *testing.T, f matchesByText, p, x impl.Term) int {
	t.Helper()
	before, seen := wholeOf([]impl.Term{p, x}), map[*impl.Term]bool{}
	nodesIn([]impl.Term{p, x}, seen)
	first, wantOk := impl.MatchModulo(f.s, p, x)
	want := listKeys(first)
	for range 3 {
		matches, ok := impl.MatchModulo(f.s, p, x)
		if ok != wantOk || !slices.Equal(listKeys(matches), want) || !listNodes(matches, seen) {
			t.Fatalf("a match of %v with %v in %v shares memory", p, x, matches)
		}
		for _, list := range matches {
			roomy := roomyBindings(list)
			beforeList := wholeOf(termsIn(roomy))
			checkIsMatch(t, f.s, p, x, roomy, true)
			if !reflect.DeepEqual(wholeOf(termsIn(roomy)), beforeList) {
				t.Fatalf("%v, before %v", termsIn(roomy), beforeList)
			}
			// No match shares memory with those behind it.
			spoilBindings(list)
		}
		spoilLists(matches)
		if !reflect.DeepEqual(wholeOf([]impl.Term{p, x}), before) {
			t.Fatalf("%v and %v, before %v", p, x, before)
		}
	}
	return len(want)
}

// The same holds where several variables have the same value, and where a value is a group of Args or a Unit.
func TestMatchesModuloAreNew(t *testing.T) {
	for _, c := range formCases() {
		s := formSignature()
		checkMemory(t, matchTextFor(s), roomyCopy(treeOf(s, c.p)), roomyCopy(treeOf(s, c.tree)))
	}
	s := unitSignature()
	for _, p := range treesOf(s, "m(x:C, x:C, y:C, y:C); r(x:C, y:C, z:C); s(x:C, y:C, z:C); u(m(x:C, y:C), z:C); h(n(x:C, y:C), n(x:C, y:C)); u(v(x:C, y:C), v(x:C, y:C))") {
		for _, x := range treesOf(s, "e; o; f(f(a)); m(a, a, a, a); m(a, a, b, b); r(f(a), f(a), f(b), f(b)); s(f(a), f(a), f(a)); h(a, a); u(f(a), f(a))") {
			checkMemory(t, matchTextFor(s), roomyCopy(p), roomyCopy(x))
		}
	}
}

func TestModuloLeavesTheSignature(t *testing.T) {
	s := fullSignature()
	f := matchTextFor(s)
	for _, x := range []impl.Term{apply(0), variableOf("x", 1), overSorts(1, "AB"), overSorts(1, "BBA"), overSorts(1, "BBABCAB")} {
		for _, p := range []impl.Term{apply(0), variableOf("x", 2), overSorts(1, "BC"), overSorts(1, "CC"), overSorts(2, "A")} {
			checkSame(t, f, p, x)
		}
		if !reflect.DeepEqual(withCapacity(s), withCapacity(fullSignature())) {
			t.Fatalf("%+v", withCapacity(s))
		}
	}
}
