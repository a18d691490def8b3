package tests

import (
	"cmp"
	"fmt"
	"maps"
	"math/rand"
	"reflect"
	"runtime/debug"
	"slices"
	"strings"
	"testing"

	"loop.example/g03107/impl"
)

// bindingsOf reads bindings as they are written, such as "x:A = g(a); y:B = b", with the names of the operators of s and the letters of the sorts.
func bindingsOf(s impl.Signature, text string) []impl.Binding {
	list := []impl.Binding{}
	if text == "" {
		return list
	}
	for _, part := range strings.Split(text, "; ") {
		left, right, _ := strings.Cut(part, " = ")
		list = append(list, impl.Binding{Var: treeOf(s, left), To: treeOf(s, right)})
	}
	return list
}

// bindingsKey gives a string for each list of bindings; the order of these strings, byte by byte, is that of the lists.
func bindingsKey(list []impl.Binding) string {
	key := ""
	for _, b := range list {
		key += orderKey(b.Var) + orderKey(b.To)
	}
	return key
}

// bindingsByText answers as the text of the chapter does, sentence by sentence, for a valid signature.
type bindingsByText struct{ sortsByText }

func bindingTextFor(s impl.Signature) bindingsByText {
	return bindingsByText{sortTextFor(s)}
}

func (f bindingsByText) isSubstitution(list []impl.Binding) bool {
	for i, b := range list {
		if b.Var.Op != -1 || !f.isTerm(b.Var) || !f.isTerm(b.To) || f.sortsOf(b.To)>>b.Var.Sort&1 == 0 {
			return false
		}
		for _, before := range list[:i] {
			if compareKeys(before.Var, b.Var) >= 0 {
				return false
			}
		}
	}
	return len(list) <= 8
}

// replaced gives the tree in which the values stand for the bound variables, without regard to the axioms.
func replaced(list []impl.Binding, t impl.Term) impl.Term {
	for _, b := range list {
		if orderKey(b.Var) == orderKey(t) {
			return b.To
		}
	}
	args := []impl.Term{}
	for _, arg := range t.Args {
		args = append(args, replaced(list, arg))
	}
	return withArgs(t, args...)
}

func (f bindingsByText) apply(list []impl.Binding, t impl.Term) (impl.Term, bool) {
	if !f.isSubstitution(list) || !f.isTerm(t) {
		return impl.Term{}, false
	}
	return f.canonicalTerm(replaced(list, t))
}

func (f bindingsByText) compose(a, b []impl.Binding) ([]impl.Binding, bool) {
	if !f.isSubstitution(a) || !f.isSubstitution(b) {
		return nil, false
	}
	both := map[string]impl.Binding{}
	for _, binding := range b {
		both[orderKey(binding.Var)] = binding
	}
	for _, binding := range a {
		to, ok := f.apply(b, binding.To)
		if !ok {
			return nil, false
		}
		both[orderKey(binding.Var)] = impl.Binding{Var: binding.Var, To: to}
	}
	list := []impl.Binding{}
	for _, key := range slices.Sorted(maps.Keys(both)) {
		list = append(list, both[key])
	}
	return list, f.isSubstitution(list)
}

func (f bindingsByText) text(list []impl.Binding) string {
	if !f.isSubstitution(list) {
		return ""
	}
	text, r := "", readingFor(f.s)
	for _, b := range list {
		text += ", " + r.format(b.Var) + " = " + r.format(b.To)
	}
	if text == "" {
		return "none"
	}
	return text[2:]
}

func checkIsSubstitution(t *testing.T, s impl.Signature, list []impl.Binding, want bool) {
	t.Helper()
	if got := impl.IsSubstitution(s, list); got != want {
		t.Fatalf("IsSubstitution(%+v, %v) = %v", s, list, got)
	}
}

func checkApply(t *testing.T, s impl.Signature, list []impl.Binding, x, want impl.Term, wantOk bool) {
	t.Helper()
	if got, ok := impl.ApplySubstitution(s, list, x); !isResult(got, ok, want, wantOk) {
		t.Fatalf("ApplySubstitution(%+v, %v, %v) = %v, %v, want %v, %v", s, list, x, got, ok, want, wantOk)
	}
}

// checkCompose checks ComposeSubstitutions; with false, there are no bindings.
func checkCompose(t *testing.T, s impl.Signature, a, b, want []impl.Binding, wantOk bool) {
	t.Helper()
	if !wantOk {
		want = nil
	}
	if got, ok := impl.ComposeSubstitutions(s, a, b); ok != wantOk || bindingsKey(got) != bindingsKey(want) {
		t.Fatalf("ComposeSubstitutions(%+v, %v, %v) = %v, %v, want %v, %v", s, a, b, got, ok, want, wantOk)
	}
}

func checkBindingText(t *testing.T, s impl.Signature, list []impl.Binding, want string) {
	t.Helper()
	if got := impl.FormatSubstitution(s, list); got != want {
		t.Fatalf("FormatSubstitution(%+v, %v) = %q, want %q", s, list, got, want)
	}
}

// checkCompareLists checks the comparison of two lists in both directions.
func checkCompareLists(t *testing.T, a, b []impl.Binding, want int) {
	t.Helper()
	if got := impl.CompareSubstitutions(a, b); got != want {
		t.Fatalf("CompareSubstitutions(%v, %v) = %d, want %d", a, b, got, want)
	}
	if got := impl.CompareSubstitutions(b, a); got != -want {
		t.Fatalf("CompareSubstitutions(%v, %v) = %d, want %d", b, a, got, -want)
	}
}

// checkList checks against the text of the chapter what is asked of one list, and tells whether it is a substitution.
func checkList(t *testing.T, f bindingsByText, list []impl.Binding) bool {
	t.Helper()
	want := f.isSubstitution(list)
	checkIsSubstitution(t, f.s, list, want)
	checkBindingText(t, f.s, list, f.text(list))
	checkCompose(t, f.s, list, nil, list, want)
	checkCompose(t, f.s, nil, list, list, want)
	return want
}

// checkInstance checks against the text of the chapter what a list makes of a tree, and tells whether it is a term.
func checkInstance(t *testing.T, f bindingsByText, list []impl.Binding, x impl.Term) bool {
	t.Helper()
	want, ok := f.apply(list, x)
	checkApply(t, f.s, list, x, want, ok)
	if ok {
		checkIsTerm(t, f.s, want, true)
	}
	return ok
}

// checkNoSubstitution checks all functions for a list that is none.
func checkNoSubstitution(t *testing.T, s impl.Signature, list []impl.Binding) {
	t.Helper()
	checkIsSubstitution(t, s, list, false)
	checkBindingText(t, s, list, "")
	checkApply(t, s, list, variableOf("x", 0), impl.Term{}, false)
	checkApply(t, s, list, apply(0), impl.Term{}, false)
	for _, other := range [][]impl.Binding{nil, {}, {{Var: variableOf("x", 0), To: apply(0)}}, list} {
		checkCompose(t, s, list, other, nil, false)
		checkCompose(t, s, other, list, nil, false)
	}
}

func TestMaxBindings(t *testing.T) {
	if impl.MaxBindings != 8 {
		t.Error(impl.MaxBindings)
	}
}

func TestIsSubstitution(t *testing.T) {
	s := formSignature()
	f := bindingTextFor(s)
	for _, text := range []string{
		"",
		// The value has the sort, or one below it.
		"x:A = a", "x:B = b", "x:C = a", "x:C = b", "x:D = d", "x:E = d", "x:A = g(a)", "x:C = c(a, b)", "x:A = h(b, c(a, b))", "x:E = q(a, b)", "x:D = k(q(a, b), g(a), d)",
		"x:C = l(a, b)", "x:A = l(a, a, a)", "x:C = l(a, a, a)", "x:B = m(a, b)", "x:B = m(a, a, b)", "x:C = m(a, a, b)", "x:C = u(b, b)", "x:A = z(g(a), g(a))", "x:C = z(b, g(a))", "x:C = w(a, a)",
		// A variable has the sorts above its own.
		"x:A = y:A", "x:C = y:A", "x:C = y:B", "x:C = y:C", "x:E = y:D",
		// A value can contain bound variables, also its own one.
		"x:A = x:A", "x:C = x:A", "x:A = g(x:A)", "x:A = y:A; y:A = x:A", "x:A = g(y:A); y:A = g(x:A)", "x:A = x:A; y:A = y:A", "x:A = h(x:A, y:C); y:C = l(x:A, y:C, x:A)",
		// The variables are ascending by their names and then by their sorts.
		"x:A = a; y:A = a", "x:A = a; y:A = a; z:A = a", "X:A = a; x:A = a", "Z:A = a; a:A = a", "x:A = a; x1:A = a", "x1:A = a; x10:A = a; x2:A = a", "x:A = a; x:B = b", "x:A = a; x:B = b; x:C = a; x:D = d; x:E = d", "x:C = a; y:A = a", "x:E = d; y:A = a; y:D = d",
		// A variable can have the name of an operator or a sort.
		"a:A = b:A", "a:A = a", "A:A = a; D:D = d", "If:A = a; iff:A = a", "abcdefghijkl:A = a",
	} {
		checkIsSubstitution(t, s, bindingsOf(s, text), true)
		if !checkList(t, f, bindingsOf(s, text)) {
			t.Error(text)
		}
	}
	for _, text := range []string{
		// The value has another sort of the kind, or only one above.
		"x:A = b", "x:B = a", "x:B = g(a)", "x:A = c(a, b)", "x:B = c(a, b)", "x:D = q(a, b)", "x:A = l(a, b)", "x:A = m(a, a)", "x:B = m(a, a)", "x:B = u(b, b)", "x:A = z(b, g(a))", "x:A = y:B", "x:B = y:A", "x:A = y:C", "x:B = y:C", "x:D = y:E", "x:A = x:C",
		// The value has no sort at all.
		"x:A = g(b)", "x:C = g(b)", "x:C = c(b, a)", "x:C = g(c(a, b))", "x:E = k(d, a, q(a, b))",
		// It is of another kind.
		"x:A = d", "x:C = d", "x:D = a", "x:E = a", "x:E = y:C", "x:C = y:D", "x:C = q(a, b)",
		// It is not in canonical form.
		"x:A = h(b, a)", "x:C = h(b, a)", "x:C = l(l(a, b), a)", "x:C = m(b, a)", "x:A = u(a, a)", "x:B = u(a, b)", "x:A = z(a, a)", "x:B = w(b, b)", "x:A = g(z(a, a))",
		// The variables are not ascending.
		"x:A = a; x:A = a", "x:A = a; x:A = g(a)", "y:A = a; x:A = a", "x:B = b; x:A = a", "x:A = a; X:A = a", "a:A = a; Z:A = a", "x1:A = a; x:A = a", "x2:A = a; x10:A = a", "y:A = a; x:C = a",
		"x:A = a; y:A = a; x:B = b", "x:A = a; y:A = a; y:A = a", "x:A = a; x:A = a; y:A = a", "x:A = a; z:A = a; y:A = a", "y:A = a; x:A = a; z:A = a", "x:A = x:A; x:A = x:A", "x:C = a; x:A = a; x:D = d",
		// Names and sorts of variables that are not valid.
		"x:F = a", "x:@ = a", "if:A = a", "and:A = a", "1:A = a", "x!:A = a", "abcdefghijklm:A = a", ":A = a", "x:A = y!:A", "x:A = if:A", "x:A = y:F", "x:A = g(y:F)",
		// What is bound is no variable.
		"a = a", "b = b", "g(x:A) = a", "g(a) = g(a)", "h(x:A, y:A) = a", "z(x:A, y:A) = a",
	} {
		checkNoSubstitution(t, s, bindingsOf(s, text))
		if checkList(t, f, bindingsOf(s, text)) {
			t.Error(text)
		}
	}
}

// What is bound must be a variable that is a term, and what it is bound to a term.
func TestBindingsOfNoTerms(t *testing.T) {
	s := formSignature()
	a := apply(0)
	for _, x := range append(wrongVariables(), impl.Term{}, impl.Term{Op: -1}, impl.Term{Op: -2, Name: "x"}, impl.Term{Op: -7}, impl.Term{Name: "x"}, impl.Term{Op: 1, Name: "x"}, apply(0, variableOf("x", 0))) {
		for _, to := range []impl.Term{a, apply(1), apply(2), variableOf("x", 0), variableOf("x", 2), x} {
			checkNoSubstitution(t, s, []impl.Binding{{Var: x, To: to}})
		}
	}
	for _, x := range noTerms() {
		for sort := range 5 {
			checkIsSubstitution(t, s, []impl.Binding{{Var: variableOf("x", sort), To: x}}, false)
			checkBindingText(t, s, []impl.Binding{{Var: variableOf("x", sort), To: x}}, "")
			checkApply(t, s, []impl.Binding{{Var: variableOf("x", sort), To: x}}, a, impl.Term{}, false)
		}
		checkApply(t, s, nil, x, impl.Term{}, false)
		checkApply(t, s, bindingsOf(s, "x:A = a; x:C = b; y:A = g(a)"), x, impl.Term{}, false)
	}
}

// eightBindings gives as many bindings as there may be, in order.
func eightBindings(s impl.Signature) []impl.Binding {
	return bindingsOf(s, "x:A = g(y:A); x:B = b; x:C = l(b, x:A); x:D = d; y:C = a; z1:A = x:A; z2:A = z1:A; z9:E = q(y:C, a)")
}

// Each binding counts, also the last one.
func TestEachBindingCounts(t *testing.T) {
	s := formSignature()
	list := eightBindings(s)
	if !checkList(t, bindingTextFor(s), list) {
		t.Fatal(list)
	}
	for i := range list {
		v, to := list[i].Var, list[i].To
		// The values that are variables would not be in order.
		for _, wrong := range []impl.Binding{{}, {To: to}, {Var: v, To: impl.Term{Op: -1}}, {Var: v, To: apply(3, apply(1))}, {Var: v, To: apply(99)}, {Var: apply(0), To: apply(0)}, {Var: to, To: v}, {Var: variableOf("if", 0), To: apply(0)}, {Var: variableOf(v.Name, 7), To: to}, {Var: withArgs(v, apply(0)), To: to}} {
			changed := slices.Clone(list)
			changed[i] = wrong
			checkNoSubstitution(t, s, changed)
		}
		for j := range i {
			changed := slices.Clone(list)
			changed[i], changed[j] = changed[j], changed[i]
			checkNoSubstitution(t, s, changed)
			changed[i], changed[j] = list[i], list[i]
			checkNoSubstitution(t, s, changed)
		}
		checkIsSubstitution(t, s, list[:i], true)
		checkIsSubstitution(t, s, list[i:], true)
		without := slices.Delete(slices.Clone(list), i, i+1)
		checkList(t, bindingTextFor(s), without)
		checkApply(t, s, list, list[i].Var, list[i].To, true)
		checkApply(t, s, without, list[i].Var, list[i].Var, true)
	}
}

// numbered gives bindings of as many different variables, which are ascending.
func numbered(count int, letter string, to impl.Term) []impl.Binding {
	list := []impl.Binding{}
	for i := range count {
		list = append(list, impl.Binding{Var: variableOf(fmt.Sprintf("%s%07d", letter, i), 2), To: to})
	}
	return list
}

func TestNumberOfBindings(t *testing.T) {
	s := formSignature()
	f := bindingTextFor(s)
	for _, count := range []int{0, 1, 2, 6, 7, 8, 9, 10, 15, 16, 17, 100} {
		list := numbered(count, "x", apply(0))
		if checkList(t, f, list) != (count <= impl.MaxBindings) {
			t.Error(count)
		}
		checkApply(t, s, list, apply(1), apply(1), count <= impl.MaxBindings)
		checkInstance(t, f, list, apply(6, variableOf("x0000000", 2), variableOf("x0000007", 2), variableOf("x0000008", 2)))
	}
	many := numbered(1000000, "x", apply(0))
	checkNoSubstitution(t, s, many)
	checkNoSubstitution(t, s, make([]impl.Binding, 1000000))
}

func TestApplySubstitution(t *testing.T) {
	s := formSignature()
	f := bindingTextFor(s)
	for _, c := range []struct{ list, tree, want string }{
		// What is not bound stays.
		{"", "x:A", "x:A"},
		{"", "a", "a"},
		{"", "m(x:C, a, l(x:A, y:B))", "m(x:C, a, l(x:A, y:B))"},
		{"x:A = g(a)", "a", "a"},
		{"x:A = g(a)", "h(a, b)", "h(a, b)"},
		{"x:A = g(a)", "y:A", "y:A"},
		{"x:A = g(a)", "X:A", "X:A"},
		{"x:A = g(a)", "x1:A", "x1:A"},
		{"x1:A = g(a)", "x:A", "x:A"},
		// A variable of the same name and another sort is another one.
		{"x:A = g(a)", "x:C", "x:C"},
		{"x:C = g(a)", "x:A", "x:A"},
		{"x:C = g(a)", "h(x:A, x:B)", "h(x:A, x:B)"},
		{"x:A = a; x:B = b", "c(x:A, x:B)", "c(a, b)"},
		{"x:A = a; x:B = b", "k(x:E, l(x:C, x:B, x:A), x:D)", "k(x:E, l(x:C, b, a), x:D)"},
		{"x:A = g(a); x:B = b; x:C = a", "c(x:C, c(x:B, x:A))", "c(a, c(b, g(a)))"},
		// What is bound is replaced at all places.
		{"x:A = g(a)", "x:A", "g(a)"},
		{"x:A = g(a)", "g(x:A)", "g(g(a))"},
		{"x:A = g(a)", "c(x:A, c(g(x:A), x:A))", "c(g(a), c(g(g(a)), g(a)))"},
		{"x:A = b:A", "c(x:A, b)", "c(b:A, b)"},
		{"x:D = d; x:E = q(a, b)", "k(x:E, a, k(x:D, a, x:D))", "k(q(a, b), a, k(d, a, d))"},
		{"x:C = a; y:A = a; y:B = b; z:A = g(a)", "l(z:A, y:B, y:A, x:C)", "l(g(a), b, a, a)"},
		// All variables are replaced at the same time.
		{"x:A = x:A", "g(x:A)", "g(x:A)"},
		{"x:A = g(x:A)", "x:A", "g(x:A)"},
		{"x:A = g(x:A)", "g(x:A)", "g(g(x:A))"},
		{"x:A = y:A; y:A = a", "x:A", "y:A"},
		{"x:A = y:A; y:A = a", "c(x:A, y:A)", "c(y:A, a)"},
		{"x:A = a; y:A = x:A", "y:A", "x:A"},
		{"x:A = a; y:A = x:A", "c(x:A, y:A)", "c(a, x:A)"},
		{"x:A = y:A; y:A = x:A", "c(x:A, y:A)", "c(y:A, x:A)"},
		{"x:A = y:A; y:A = z:A; z:A = x:A", "c(x:A, c(y:A, z:A))", "c(y:A, c(z:A, x:A))"},
		{"x:A = g(y:A); y:A = g(x:A)", "c(x:A, c(y:A, x:A))", "c(g(y:A), c(g(x:A), g(y:A)))"},
		{"x:A = a; x:C = x:A", "c(x:A, x:C)", "c(a, x:A)"},
		{"x:C = l(y:C, x:C); y:C = l(x:C, y:C)", "l(x:C, y:C)", "l(y:C, x:C, x:C, y:C)"},
		{"x:C = z:C; y:C = x:C; z:C = y:C", "m(x:C, x:C, y:C, z:C)", "m(x:C, y:C, z:C, z:C)"},
		// Arguments are put in order.
		{"x:A = g(a)", "h(x:A, b)", "h(b, g(a))"},
		{"x:C = b; y:C = a", "h(x:C, y:C)", "h(a, b)"},
		{"x:C = z:C", "h(x:C, y:C)", "h(y:C, z:C)"},
		{"x:C = y:C; y:C = x:C", "h(x:C, y:C)", "h(x:C, y:C)"},
		{"x:C = b", "q(x:C, a)", "q(a, b)"},
		{"x:A = h(x:A, y:A)", "h(x:A, y:A)", "h(y:A, h(x:A, y:A))"},
		{"x:C = b; y:C = a", "h(g(y:C), h(x:C, y:C))", "h(g(a), h(a, b))"},
		{"x:C = g(a); y:C = b", "m(x:C, y:C, a)", "m(a, b, g(a))"},
		{"x:C = b", "l(x:C, a)", "l(b, a)"},
		{"x:C = b", "c(x:C, a)", "c(b, a)"},
		// Arguments of associative operators are put together.
		{"x:C = l(a, b)", "l(b, x:C, b)", "l(b, a, b, b)"},
		{"x:C = l(a, b)", "l(x:C, b)", "l(a, b, b)"},
		{"x:C = l(a, b)", "l(b, x:C)", "l(b, a, b)"},
		{"x:C = l(a, b); y:C = l(b, b)", "l(x:C, y:C, x:C)", "l(a, b, b, b, a, b)"},
		{"x:C = l(y:C, x:C)", "l(y:C, x:C)", "l(y:C, y:C, x:C)"},
		{"x:C = l(a, b)", "m(x:C, a)", "m(a, l(a, b))"},
		{"x:C = m(a, b)", "l(x:C, a)", "l(m(a, b), a)"},
		{"x:C = l(a, b)", "l(g(x:C), x:C)", "l(g(l(a, b)), a, b)"},
		{"x:C = m(a, g(a))", "m(x:C, b)", "m(a, b, g(a))"},
		{"x:C = m(y:C, b)", "m(x:C, a, g(x:C))", "m(y:C, a, b, g(m(y:C, b)))"},
		{"x:C = h(a, b)", "h(x:C, a)", "h(a, h(a, b))"},
		// Units are left out.
		{"x:C = a", "u(x:C, b)", "b"},
		{"x:C = a", "u(b, x:C)", "b"},
		{"x:C = a", "u(x:C, x:C)", "a"},
		{"x:C = a", "u(x:C, u(b, x:C))", "b"},
		{"x:C = a", "v(x:C, g(a))", "g(a)"},
		{"x:C = a", "g(z(x:C, y:C))", "g(y:C)"},
		{"x:C = a", "h(u(x:C, y:C), v(x:C, z:C))", "h(y:C, z:C)"},
		{"x:C = a", "z(x:C, x:C, x:C)", "a"},
		{"x:C = a; y:C = z(b, b)", "z(x:C, y:C, g(a))", "z(b, b, g(a))"},
		{"x:C = b", "w(g(a), x:C, a)", "w(g(a), a)"},
		{"x:C = b; y:C = b", "w(x:C, y:C, x:C)", "b"},
		{"x:C = w(a, a)", "w(x:C, g(b))", "w(a, a, g(b))"},
		{"x:C = a", "w(x:C, y:C)", "w(a, y:C)"},
		{"x:C = b", "z(x:C, y:C)", "z(y:C, b)"},
		// What Units leave can be put together with others, or be a Unit again.
		{"x:C = a; y:C = l(a, b)", "l(u(x:C, y:C), b)", "l(a, b, b)"},
		{"x:C = a; y:C = m(a, b)", "m(b, z(x:C, y:C))", "m(a, b, b)"},
		{"x:C = a; y:C = b", "w(a, u(x:C, y:C), a)", "w(a, a)"},
		{"x:C = b; y:C = a", "z(b, w(x:C, y:C))", "b"},
		{"x:C = a", "h(b, u(x:C, a:C))", "h(a:C, b)"},
		// Where a Unit leaves a value, its variables are not replaced.
		{"x:C = a; y:C = x:C", "z(x:C, y:C)", "x:C"},
		{"x:C = y:C; y:C = a", "u(x:C, y:C)", "y:C"},
		{"x:C = a; y:C = u(x:B, y:C)", "v(x:C, y:C)", "u(x:B, y:C)"},
	} {
		list, x := bindingsOf(s, c.list), treeOf(s, c.tree)
		checkApply(t, s, list, x, treeOf(s, c.want), true)
		checkInstance(t, f, list, x)
	}
}

// Bindings of variables that do not occur change nothing, but must be valid all the same.
func TestBindingsOfOtherVariables(t *testing.T) {
	s := formSignature()
	for _, text := range strings.Split("x:A; a; g(x:A); h(x:A, a); l(x:C, x:A); z(x:A, b); k(d, x:A, x:E)", "; ") {
		x := treeOf(s, text)
		checkApply(t, s, bindingsOf(s, "w:A = g(a); x:B = b; x:D = d; y:C = l(a, b)"), x, x, true)
		checkApply(t, s, bindingsOf(s, "w:A = g(a); x:B = b; x:D = d; y:C = l(l(a, b), a)"), x, impl.Term{}, false)
		checkApply(t, s, bindingsOf(s, "w:A = b; x:B = b; x:D = d; y:C = l(a, b)"), x, impl.Term{}, false)
		checkApply(t, s, bindingsOf(s, "x:B = b; w:A = g(a)"), x, impl.Term{}, false)
	}
}

// A term must be in canonical form, also where what is put in would give the same one.
func TestApplyTakesOnlyTerms(t *testing.T) {
	s := formSignature()
	for _, x := range append(unformedTrees(), treesOf(s, "h(y:A, x:A); h(a, x:A); l(l(x:C, a), b); m(a, x:C); u(x:C, a); w(x:C, b); z(x:C, z(y:C, b)); g(h(y:C, x:C))")...) {
		for _, list := range []string{"", "x:A = a", "x:A = a; x:C = g(a); y:A = g(a)", "x:C = y:C; y:C = x:C"} {
			checkApply(t, s, bindingsOf(s, list), x, impl.Term{}, false)
		}
		form, ok := impl.CanonicalTerm(s, x)
		if !ok || !impl.IsTerm(s, form) {
			t.Fatal(x, form)
		}
		checkApply(t, s, nil, form, form, true)
	}
}

// limitSignature gives operators whose results have the sort A if their arguments have, also for the trees of treeOfSize, which takes the first ones by their numbers.
func limitSignature() impl.Signature {
	return signatureOf(chainSorts(), "a -A; b -B; c -C; f A-A; p AA-A; l AA-A assoc; m AA-A assoc comm; w AA-A assoc unit=1; u AA-A assoc comm unit=1")
}

// bindY binds y:A.
func bindY(to impl.Term) []impl.Binding {
	return []impl.Binding{{Var: variableOf("y", 0), To: to}}
}

// checkAtLimit checks what y:A = to makes of x, and of bindings to x, where it is known whether this is a term.
func checkAtLimit(t *testing.T, f bindingsByText, to, x impl.Term, want bool) {
	t.Helper()
	form, _ := f.canonicalTerm(replaced(bindY(to), x))
	checkApply(t, f.s, bindY(to), x, form, want)
	checkCompose(t, f.s, bindY(x), bindY(to), bindY(form), want)
	checkCompose(t, f.s, []impl.Binding{{Var: variableOf("v", 0), To: x}}, bindY(to), []impl.Binding{{Var: variableOf("v", 0), To: form}, {Var: variableOf("y", 0), To: to}}, want)
	if checkInstance(t, f, bindY(to), x) != want {
		t.Fatalf("%v for y in %v", to, x)
	}
}

func TestSizeOfInstances(t *testing.T) {
	f := bindingTextFor(limitSignature())
	y := variableOf("y", 0)
	for size := 1; size <= 62; size++ {
		to := treeOfSize(size)
		checkAtLimit(t, f, to, y, size <= 60)
		checkAtLimit(t, f, to, apply(3, y), size+1 <= 60)
		checkAtLimit(t, f, to, apply(4, y, y), 2*size+1 <= 60)
		checkAtLimit(t, f, to, apply(4, apply(4, y, y), apply(4, y, apply(0))), 3*size+4 <= 60)
		checkAtLimit(t, f, to, apply(3, apply(3, apply(8, variableOf("x", 0), y))), size+4 <= 60)
		for _, other := range []int{5, 29, 30, 57, 58} {
			checkAtLimit(t, f, to, apply(4, y, treeOfSize(other)), size+other+1 <= 60)
			checkAtLimit(t, f, to, apply(4, treeOfSize(other), y), size+other+1 <= 60)
			checkAtLimit(t, f, to, apply(5, y, treeOfSize(other)), size+other+1 <= 60)
		}
	}
	// A Unit makes room.
	for _, size := range []int{57, 58} {
		x := apply(8, y, treeOfSize(size))
		checkAtLimit(t, f, apply(0), x, true)
		checkApply(t, f.s, bindY(apply(0)), x, treeOfSize(size), true)
		checkAtLimit(t, f, apply(3, apply(0)), x, size+3 <= 60)
	}
}

func TestDepthOfInstances(t *testing.T) {
	f := bindingTextFor(limitSignature())
	y := variableOf("y", 0)
	for inner := 1; inner <= 21; inner++ {
		for outer := 1; outer <= 21; outer++ {
			for _, leaf := range []impl.Term{variableOf("x", 0), apply(0)} {
				checkAtLimit(t, f, chainOf(3, inner-1, leaf), chainOf(3, outer-1, y), inner <= 20 && outer <= 20 && inner+outer-1 <= 20)
			}
		}
		list := apply(6, y, apply(0), chainOf(3, inner, y))
		checkAtLimit(t, f, apply(6, apply(0), apply(3, apply(0))), list, 1+inner+3 <= 20)
	}
	// What is put together is not deeper, and neither is what a Unit leaves.
	for depth := 2; depth <= 20; depth++ {
		x := chainOf(3, depth-2, apply(8, y, variableOf("z", 0)))
		checkAtLimit(t, f, apply(0), x, true)
		checkApply(t, f.s, bindY(apply(0)), x, chainOf(3, depth-2, variableOf("z", 0)), true)
		checkAtLimit(t, f, apply(8, apply(3, apply(0)), apply(3, apply(0))), x, depth+1 <= 20)
		checkAtLimit(t, f, apply(8, variableOf("x", 0), y), x, true)
	}
}

func TestWidthOfInstances(t *testing.T) {
	f := bindingTextFor(limitSignature())
	y := variableOf("y", 0)
	for op := 5; op <= 8; op++ {
		for inner := 2; inner <= 8; inner++ {
			to := apply(op)
			for i := range inner {
				to.Args = append(to.Args, variableOf(fmt.Sprint("x", i), 0))
			}
			for outer := 2; outer <= 8; outer++ {
				for count := 1; count <= outer; count++ {
					x := apply(op)
					for i := range outer {
						x.Args = append(x.Args, variableOf([]string{"y", "z"}[min(1, i/count)], 0))
					}
					want := inner <= 7 && outer <= 7 && outer-count+count*inner <= 7
					checkAtLimit(t, f, to, x, want)
					checkAtLimit(t, f, to, apply(3, x), want)
				}
			}
		}
		for count := 2; count <= 8; count++ {
			// Other values, and the Unit, take no more room.
			x := apply(op, slices.Repeat([]impl.Term{y}, count)...)
			checkAtLimit(t, f, apply(3, apply(0)), x, count <= 7)
			checkAtLimit(t, f, apply(5+(op-4)%4, y, variableOf("z", 0)), x, count <= 7)
			checkAtLimit(t, f, apply(0), x, count <= 7)
		}
	}
}

// The limits hold for all that is built, also behind a part that is in order.
func TestPartsOfInstancesAtTheLimits(t *testing.T) {
	f := bindingTextFor(limitSignature())
	y, a := variableOf("y", 0), apply(0)
	wide := apply(5, y, variableOf("z", 0), y)
	for _, to := range []impl.Term{apply(5, a, a), apply(5, a, a, a), apply(5, a, a, a, a), apply(5, a, a, a, a, a, a, a)} {
		want := 2*len(to.Args)+1 <= 7
		for _, x := range []impl.Term{wide, apply(3, wide), apply(4, a, wide), apply(4, wide, a), apply(8, a, wide), apply(8, y, wide), apply(6, wide, y), apply(4, wide, apply(3, wide)), apply(6, y, a, apply(3, wide))} {
			if f.isTerm(x) {
				checkAtLimit(t, f, to, x, want)
			}
		}
	}
}

func TestComposeSubstitutions(t *testing.T) {
	s := formSignature()
	f := bindingTextFor(s)
	for _, c := range []struct{ a, b, want string }{
		{"", "", ""},
		{"x:A = a", "", "x:A = a"},
		{"", "x:A = a", "x:A = a"},
		// The variables of both, in order.
		{"x:A = a", "y:A = g(a)", "x:A = a; y:A = g(a)"},
		{"y:A = a", "x:A = g(a)", "x:A = g(a); y:A = a"},
		{"x:A = a; z:A = a", "w:A = a; y:A = a; z9:A = a", "w:A = a; x:A = a; y:A = a; z:A = a; z9:A = a"},
		{"x:B = b", "x:A = a; x:C = b", "x:A = a; x:B = b; x:C = b"},
		{"x:D = d; y:A = a", "x:A = a; x:E = d", "x:A = a; x:D = d; x:E = d; y:A = a"},
		{"X:A = a; x1:A = a", "Y:A = a; x:A = a", "X:A = a; Y:A = a; x:A = a; x1:A = a"},
		// Those that are bound by a are not taken from b.
		{"x:A = a", "x:A = g(a)", "x:A = a"},
		{"x:A = a; y:A = a", "x:A = g(a); y:A = g(a)", "x:A = a; y:A = a"},
		{"x:A = x:A", "x:A = g(a)", "x:A = g(a)"},
		{"x:A = g(x:A)", "x:A = a", "x:A = g(a)"},
		{"x:A = g(x:A)", "x:A = g(x:A)", "x:A = g(g(x:A))"},
		{"x:C = x:A", "x:A = a; x:C = b", "x:A = a; x:C = a"},
		{"x:C = x:A", "x:C = b", "x:C = x:A"},
		// What b binds is replaced in the values of a, at the same time.
		{"x:A = y:A", "y:A = a", "x:A = a; y:A = a"},
		{"x:A = y:A", "x:A = a", "x:A = y:A"},
		{"x:A = y:A; y:A = x:A", "x:A = a", "x:A = y:A; y:A = a"},
		{"x:A = y:A; y:A = x:A", "x:A = y:A; y:A = x:A", "x:A = x:A; y:A = y:A"},
		{"x:A = y:A", "x:A = y:A; y:A = x:A", "x:A = x:A; y:A = x:A"},
		{"x:A = y:A; y:A = z:A", "y:A = z:A; z:A = y:A", "x:A = z:A; y:A = y:A; z:A = y:A"},
		{"x:A = g(y:A)", "y:A = g(y:A)", "x:A = g(g(y:A)); y:A = g(y:A)"},
		{"x:A = g(y:A)", "y:C = a", "x:A = g(y:A); y:C = a"},
		{"x:C = c(y:A, z:B)", "y:A = a; z:B = m(y:A, z:B)", "x:C = c(a, m(y:A, z:B)); y:A = a; z:B = m(y:A, z:B)"},
		// The values of b stay as they are, also where a binds their variables.
		{"x:A = a", "y:A = g(x:A)", "x:A = a; y:A = g(x:A)"},
		{"x:A = y:A", "y:A = g(x:A)", "x:A = g(x:A); y:A = g(x:A)"},
		// The values are in canonical form.
		{"x:A = h(y:C, z:C)", "y:C = b; z:C = a", "x:A = h(a, b); y:C = b; z:C = a"},
		{"x:C = l(y:C, a)", "y:C = l(b, b)", "x:C = l(b, b, a); y:C = l(b, b)"},
		{"x:C = m(y:C, a)", "y:C = m(y:C, b)", "x:C = m(y:C, a, b); y:C = m(y:C, b)"},
		{"x:C = v(y:C, z:C)", "y:C = a", "x:C = z:C; y:C = a"},
		{"x:C = v(y:C, z:C)", "y:C = a; z:C = a", "x:C = a; y:C = a; z:C = a"},
		{"x:C = u(b, z:C)", "z:C = a", "x:C = b; z:C = a"},
		{"x:C = w(y:C, z:C, y:C)", "y:C = b", "x:C = z:C; y:C = b"},
		{"x:A = z(y:A, z:A)", "y:A = a; z:A = z(g(a), g(a))", "x:A = z(g(a), g(a)); y:A = a; z:A = z(g(a), g(a))"},
		{"x:C = l(v(y:C, z:C), y:C)", "y:C = a; z:C = l(b, b)", "x:C = l(b, b, a); y:C = a; z:C = l(b, b)"},
	} {
		a, b, want := bindingsOf(s, c.a), bindingsOf(s, c.b), bindingsOf(s, c.want)
		checkCompose(t, s, a, b, want, true)
		got, ok := f.compose(a, b)
		checkCompose(t, s, a, b, got, ok)
	}
}

// A variable for which a Unit is put in can take the sort of a value away; then the result is no substitution.
func TestCompositionsThatLoseASort(t *testing.T) {
	sorts := sortsOf(4, "AC BC")
	for _, c := range []struct {
		ops, a, b, want string
		ok              bool
	}{
		{"e -A; u AA-B unit=1", "z:B = u(x:A, y:A)", "", "z:B = u(x:A, y:A)", true},
		{"e -A; u AA-B unit=1", "z:B = u(x:A, y:A)", "x:A = y:A", "x:A = y:A; z:B = u(y:A, y:A)", true},
		{"e -A; u AA-B unit=1", "z:B = u(x:A, y:A)", "x:A = e", "", false},
		{"e -A; u AA-B unit=1", "z:B = u(x:A, y:A)", "y:A = e", "", false},
		{"e -A; u AA-B unit=1", "z:B = u(x:A, y:A)", "x:A = e; y:A = e", "", false},
		{"e -A; u AA-B unit=1", "z:C = u(x:A, y:A)", "x:A = e", "x:A = e; z:C = y:A", true},
		{"e -A; u AA-B unit=1", "x:A = e; z:B = u(x:A, y:A)", "", "x:A = e; z:B = u(x:A, y:A)", true},
		{"e -A; u AA-B unit=1", "x:A = e", "z:B = u(x:A, y:A)", "x:A = e; z:B = u(x:A, y:A)", true},
		{"e -A; u AC-B unit=1", "z:B = u(x:A, y:C)", "y:C = e", "", false},
		{"e -A; u AC-B unit=1; b -B", "z:B = u(x:A, y:C)", "x:A = e; y:C = b", "x:A = e; y:C = b; z:B = b", true},
		{"e -A; u AC-B unit=1; b -B", "z:B = u(x:A, y:C)", "x:A = e; y:C = e", "", false},
		{"e -A; u AA-B comm unit=1", "z:B = u(x:A, y:A)", "y:A = e", "", false},
		{"e -A; u AA-B BB-B assoc unit=1", "z:B = u(v:A, w:A, x:B)", "w:A = e", "", false},
		{"e -A; u AA-B BB-B assoc unit=1", "z:B = u(v:A, w:A, x:B)", "v:A = e; w:A = e", "v:A = e; w:A = e; z:B = x:B", true},
		{"e -A; u AA-B BB-B assoc comm unit=1", "z:B = u(v:A, w:A, x:A, y:A)", "w:A = e; y:A = e", "w:A = e; y:A = e; z:B = u(v:A, x:A)", true},
		{"e -A; u AA-B BB-B assoc comm unit=1", "z:B = u(v:A, w:A, x:A, y:A)", "w:A = e", "", false},
		// What is left has no sort at all.
		{"e -A; f B-C; u AA-B unit=1", "z:C = f(u(x:A, y:A))", "x:A = e", "", false},
		{"e -A; f C-C; u AA-B unit=1", "z:C = f(u(x:A, y:A))", "x:A = e", "x:A = e; z:C = f(y:A)", true},
	} {
		s := signatureOf(sorts, c.ops)
		checkSignature(t, s, true)
		a, b := bindingsOf(s, c.a), bindingsOf(s, c.b)
		checkIsSubstitution(t, s, a, true)
		checkIsSubstitution(t, s, b, true)
		checkCompose(t, s, a, b, bindingsOf(s, c.want), c.ok)
		got, ok := bindingTextFor(s).compose(a, b)
		checkCompose(t, s, a, b, got, ok)
		// The instance itself is a term all the same.
		for _, binding := range a {
			if !checkInstance(t, bindingTextFor(s), b, binding.To) {
				t.Error(c)
			}
		}
	}
}

// There may be as many bindings as there may be in each of both, as long as there are not more variables together.
func TestNumberOfBindingsOfCompositions(t *testing.T) {
	s := formSignature()
	f := bindingTextFor(s)
	for first := range 10 {
		for second := range 10 {
			a, b := numbered(first, "x", apply(0)), numbered(second, "y", apply(1))
			want := first+second <= impl.MaxBindings
			checkCompose(t, s, a, b, append(slices.Clone(a), b...), want)
			checkCompose(t, s, b, a, append(slices.Clone(a), b...), want)
			same := numbered(second, "x", apply(1))
			more := slices.Concat(a, same[min(first, second):])
			checkCompose(t, s, a, same, more, max(first, second) <= impl.MaxBindings)
			got, ok := f.compose(a, same)
			checkCompose(t, s, a, same, got, ok)
		}
	}
}

// listsInOrder gives lists that are ascending, few of which are substitutions.
func listsInOrder() [][]impl.Binding {
	x, y, z := variableOf("x", 0), variableOf("y", 0), variableOf("x", 1)
	a, b := apply(0), apply(1)
	return [][]impl.Binding{
		nil,
		// Var decides before To.
		{{Var: impl.Term{Op: -5}, To: b}},
		{{Var: impl.Term{Op: -5, Name: "x"}, To: a}},
		{{Var: variableOf("X", 9), To: b}},
		// Then To does.
		{{Var: x, To: impl.Term{Op: -2}}},
		{{Var: x, To: variableOf("", 5)}},
		{{Var: x, To: x}},
		// A proper prefix is first, and each binding decides before those behind it.
		{{Var: x, To: x}, {Var: x, To: x}},
		{{Var: x, To: x}, {Var: x, To: x}, {Var: x, To: x}},
		{{Var: x, To: x}, {Var: x, To: y}},
		{{Var: x, To: x}, {Var: y, To: x}},
		{{Var: x, To: x}, {Var: y, To: a}, {Var: x, To: b}},
		{{Var: x, To: x}, {Var: y, To: a}, {Var: y, To: x}},
		{{Var: x, To: x}, {Var: a, To: a}},
		{{Var: x, To: z}},
		{{Var: x, To: y}},
		{{Var: x, To: y}, {Var: x, To: x}},
		{{Var: x, To: a}},
		{{Var: x, To: a}, {Var: z, To: b}},
		{{Var: x, To: a}, {Var: y, To: a}},
		{{Var: x, To: a}, {Var: y, To: b}},
		{{Var: x, To: apply(0, x)}},
		{{Var: x, To: apply(0, x, x)}},
		{{Var: x, To: apply(0, b)}},
		{{Var: x, To: b}},
		{{Var: x, To: b}, {}},
		{{Var: x, To: apply(99)}},
		{{Var: impl.Term{Op: -1, Name: "x", Args: []impl.Term{a}}, To: x}},
		{{Var: z, To: a}},
		{{Var: y, To: x}},
		{{Var: y, To: b}, {Var: x, To: a}},
		{{}},
		{{}, {}},
		{{To: a}, {To: b}},
		{{To: b}},
		{{Var: b}},
	}
}

func TestCompareSubstitutions(t *testing.T) {
	lists := listsInOrder()
	for i, a := range lists {
		for j, b := range lists {
			checkCompareLists(t, a, b, cmp.Compare(i, j))
			if want := strings.Compare(bindingsKey(a), bindingsKey(b)); want != cmp.Compare(i, j) {
				t.Fatal(a, b, want)
			}
			for _, c := range lists[:j] {
				checkCompareLists(t, slices.Concat(a, b), slices.Concat(a, c), 1)
			}
		}
		checkCompareLists(t, a, slices.Clone(a), 0)
	}
	checkCompareLists(t, nil, []impl.Binding{}, 0)
	empty := impl.Binding{Var: impl.Term{Op: -1, Args: []impl.Term{}}, To: impl.Term{Op: 3, Args: []impl.Term{}}}
	checkCompareLists(t, []impl.Binding{empty}, []impl.Binding{{Var: impl.Term{Op: -1}, To: impl.Term{Op: 3}}}, 0)
}

// Lists of any length and trees of any depth are compared.
func TestCompareGreatLists(t *testing.T) {
	defer debug.SetMaxStack(debug.SetMaxStack(1 << 22))
	const depth = 300000
	deep, deeper := chainOf(3, depth, apply(0)), chainOf(3, depth, apply(1))
	for _, around := range []func(x impl.Term) []impl.Binding{
		func(x impl.Term) []impl.Binding { return []impl.Binding{{Var: x}} },
		func(x impl.Term) []impl.Binding { return []impl.Binding{{To: x}} },
		func(x impl.Term) []impl.Binding { return []impl.Binding{{Var: deep, To: x}, {Var: deeper}} },
		func(x impl.Term) []impl.Binding { return []impl.Binding{{Var: deep, To: deep}, {Var: x}} },
	} {
		checkCompareDeep(t, around(deep), around(deep), 0)
		checkCompareDeep(t, around(deep), around(deeper), -1)
		checkCompareDeep(t, around(deeper), around(deep), 1)
	}
	many := numbered(100000, "x", apply(3, apply(0)))
	other := slices.Clone(many)
	checkCompareDeep(t, many, other, 0)
	checkCompareDeep(t, many[:99999], other, -1)
	other[99999].To = apply(0)
	checkCompareDeep(t, many, other, 1)
}

// checkCompareDeep checks the comparison of lists that are too great to be shown.
func checkCompareDeep(t *testing.T, a, b []impl.Binding, want int) {
	t.Helper()
	if got := impl.CompareSubstitutions(a, b); got != want {
		t.Fatal(got, want)
	}
}

func TestFormatSubstitution(t *testing.T) {
	s := namedSignature()
	for _, c := range []struct {
		list []impl.Binding
		want string
	}{
		{nil, "none"},
		{[]impl.Binding{{Var: variableOf("x", 0), To: apply(0)}}, "x:Nat = zero"},
		{[]impl.Binding{{Var: variableOf("x", 1), To: apply(8)}}, "x:N = N"},
		{[]impl.Binding{{Var: variableOf("zero", 2), To: variableOf("zero", 2)}}, "zero:zero = zero:zero"},
		{[]impl.Binding{{Var: variableOf("x", 3), To: variableOf("x", 0)}}, "x:Natural12345 = x:Nat"},
		{[]impl.Binding{{Var: variableOf("x", 0), To: apply(2, apply(1))}, {Var: variableOf("x", 3), To: apply(6, apply(1), apply(0))}}, "x:Nat = s(z), x:Natural12345 = plus2(z, zero)"},
		{[]impl.Binding{{Var: variableOf("x", 0), To: variableOf("y", 0)}, {Var: variableOf("y", 0), To: apply(5, variableOf("x", 0), variableOf("x", 0), apply(1))}, {Var: variableOf("y", 1), To: variableOf("none", 1)}}, "x:Nat = y:Nat, y:Nat = plus(x:Nat, x:Nat, z), y:N = none:N"},
	} {
		checkBindingText(t, s, c.list, c.want)
		checkList(t, bindingTextFor(s), c.list)
	}
	f := formSignature()
	checkBindingText(t, f, eightBindings(f), "x:A = g(y:A), x:B = b, x:C = l(b, x:A), x:D = d, y:C = a, z1:A = x:A, z2:A = z1:A, z9:E = q(y:C, a)")
}

func TestBindingsInInvalidSignatures(t *testing.T) {
	right := formSignature()
	broken := append(brokenSignatures(), impl.Signature{Sorts: sortsOf(1, ""), Ops: make([]impl.Op, 1000000)})
	for _, s := range broken {
		for _, text := range []string{"x:A = a", "x:C = a", "x:A = x:A", "x:D = d", "x:A = a; y:A = a", "x:A = h(a, b); x:C = l(a, b)"} {
			checkNoSubstitution(t, s, bindingsOf(right, text))
			checkApply(t, s, bindingsOf(right, text), apply(1), impl.Term{}, false)
		}
		// The empty list is a substitution, but there is no term to which it could be applied.
		for _, list := range [][]impl.Binding{nil, {}, bindingsOf(right, "x:A = a")[:0]} {
			checkIsSubstitution(t, s, list, true)
			checkBindingText(t, s, list, "none")
			checkCompose(t, s, list, nil, nil, false)
			checkCompose(t, s, nil, list, nil, false)
			for _, x := range treesOf(right, "x:A; a; d; g(a); h(a, b); l(a, b, a); u(b, b); u(a, b)") {
				checkApply(t, s, list, x, impl.Term{}, false)
			}
		}
	}
}

func TestBindingsWithEmptySlices(t *testing.T) {
	s := formSignature()
	a, x := apply(0), variableOf("x", 0)
	for _, args := range [][]impl.Term{nil, {}, make([]impl.Term, 3)[:0]} {
		emptyA, emptyX := impl.Term{Op: 0, Args: args}, impl.Term{Op: -1, Name: "x", Sort: 0, Args: args}
		list := []impl.Binding{{Var: emptyX, To: emptyA}}
		checkIsSubstitution(t, s, list, true)
		checkBindingText(t, s, list, "x:A = a")
		for _, tree := range []impl.Term{x, emptyX} {
			checkApply(t, s, list, tree, a, true)
			checkApply(t, s, list, apply(3, tree), apply(3, a), true)
			checkApply(t, s, []impl.Binding{{Var: emptyX, To: emptyX}}, tree, x, true)
			checkCompose(t, s, []impl.Binding{{Var: x, To: tree}}, list, []impl.Binding{{Var: x, To: a}}, true)
			checkCompose(t, s, []impl.Binding{{Var: tree, To: apply(3, emptyX)}}, list, []impl.Binding{{Var: x, To: apply(3, a)}}, true)
		}
		checkIsSubstitution(t, s, []impl.Binding{{Var: emptyX, To: a}, {Var: x, To: a}}, false)
	}
	for _, empty := range [][]impl.Binding{nil, {}, make([]impl.Binding, 9)[:0]} {
		checkIsSubstitution(t, s, empty, true)
		checkBindingText(t, s, empty, "none")
		checkApply(t, s, empty, apply(3, x), apply(3, x), true)
		checkCompose(t, s, empty, empty, nil, true)
		checkCompareLists(t, empty, nil, 0)
		checkCompareLists(t, empty, []impl.Binding{{}}, -1)
	}
	variables := impl.Signature{Sorts: sortsOf(2, "AB")}
	checkApply(t, variables, []impl.Binding{{Var: variableOf("x", 1), To: x}}, variableOf("x", 1), x, true)
	checkNoSubstitution(t, variables, []impl.Binding{{Var: x, To: variableOf("x", 1)}})
}

// Deep trees, and values that contain themselves, are no terms, and there is an answer all the same.
func TestBindingsOfGreatTrees(t *testing.T) {
	defer debug.SetMaxStack(debug.SetMaxStack(1 << 22))
	s := formSignature()
	a := []impl.Binding{{Var: variableOf("x", 0), To: apply(0)}}
	for _, x := range endlessTrees() {
		for _, list := range [][]impl.Binding{{{Var: variableOf("x", 0), To: x}}, {{Var: variableOf("x", 0), To: apply(3, x)}}, {{Var: x, To: apply(0)}}, {{Var: x, To: x}}, {a[0], {Var: x, To: apply(0)}}, {{Var: x}, {Var: x}}, {{Var: impl.Term{Op: -1, Name: "x", Args: []impl.Term{x}}, To: apply(0)}}} {
			if _, ok := impl.ComposeSubstitutions(s, list, a); ok || impl.IsSubstitution(s, list) || impl.FormatSubstitution(s, list) != "" {
				t.Fatal("a substitution with a tree without an end, with the operator", x.Op)
			}
			if _, ok := impl.ComposeSubstitutions(s, a, list); ok {
				t.Fatal("a composition with a tree without an end, with the operator", x.Op)
			}
			if _, ok := impl.ApplySubstitution(s, list, apply(0)); ok {
				t.Fatal("an instance with a tree without an end, with the operator", x.Op)
			}
		}
		for _, tree := range []impl.Term{x, apply(3, x), apply(11, apply(0), x)} {
			if form, ok := impl.ApplySubstitution(s, a, tree); ok || form.Op != 0 || len(form.Args) > 0 {
				t.Fatal("an instance of a tree without an end, with the operator", x.Op)
			}
		}
	}
}

// oneSort gives a signature in which all terms have the sort A, with a choice of axioms as in oneKind.
func oneSort(choice int) impl.Signature {
	s := signatureOf(sortsOf(1, ""), "e -A; a -A; f A-A; m AA-A")
	s.Ops[3].Assoc, s.Ops[3].Comm, s.Ops[3].Unit = choice&1 > 0, choice&2 > 0, choice>>2
	return s
}

// smallTerms gives all terms of one variable that have at most that many nodes.
func smallTerms(s impl.Signature, most int) []impl.Term {
	return slices.DeleteFunc(treesUpTo(s, most), func(x impl.Term) bool { return !impl.IsTerm(s, x) })
}

// All small terms are put into all small terms, for each choice of axioms, and composition is one after the other for all of them.
func TestAllSmallInstances(t *testing.T) {
	for choice := range 12 {
		f := bindingTextFor(oneSort(choice))
		x := variableOf("x", 0)
		terms, values := smallTerms(f.s, 5), smallTerms(f.s, 3)
		if len(terms) < 50 || len(values) < 8 {
			t.Fatal(len(terms), len(values))
		}
		for _, first := range values {
			a := []impl.Binding{{Var: x, To: first}}
			for _, term := range terms {
				checkInstance(t, f, a, term)
			}
			for _, second := range values {
				b := []impl.Binding{{Var: x, To: second}}
				want, ok := f.compose(a, b)
				checkCompose(t, f.s, a, b, want, ok)
				for _, term := range values {
					checkOneAfterTheOther(t, f.s, a, b, term)
				}
			}
		}
	}
}

// checkOneAfterTheOther checks that a composition, if there is one, makes of a term what its two parts make of it one after the other.
// It tells whether this is a term.
func checkOneAfterTheOther(t *testing.T, s impl.Signature, a, b []impl.Binding, x impl.Term) bool {
	t.Helper()
	both, composed := impl.ComposeSubstitutions(s, a, b)
	first, firstOk := impl.ApplySubstitution(s, a, x)
	second, secondOk := impl.ApplySubstitution(s, b, first)
	if composed && firstOk && secondOk {
		checkApply(t, s, both, x, second, true)
		return true
	}
	return false
}

// randomBindings gives bindings, ascending and of the right sorts, for at most that many of the given variables and others named x, y and z.
func randomBindings(source *rand.Rand, f bindingsByText, variables []impl.Term, most int) []impl.Binding {
	list := []impl.Binding{}
	for range source.Intn(most + 1) {
		sort := source.Intn(len(f.kinds))
		v := variableOf([]string{"x", "y", "z"}[source.Intn(3)], sort)
		if len(variables) > 0 && source.Intn(3) > 0 {
			v = variables[source.Intn(len(variables))]
		}
		if !slices.ContainsFunc(list, func(b impl.Binding) bool { return orderKey(b.Var) == orderKey(v) }) {
			list = append(list, impl.Binding{Var: v, To: randomValue(source, f, v.Sort)})
		}
	}
	slices.SortFunc(list, func(a, b impl.Binding) int { return compareKeys(a.Var, b.Var) })
	return list
}

// randomValue gives a term that has a sort; many are Units, and many are wide.
func randomValue(source *rand.Rand, f bindingsByText, sort int) impl.Term {
	for range 8 {
		x := opened(source, f, treeOfKind(source, f.formsByText, f.kinds[sort], 1+source.Intn(4)))
		switch op := source.Intn(len(f.s.Ops)); {
		case f.s.Ops[op].Unit > 0 && source.Intn(2) > 0:
			x = apply(f.s.Ops[op].Unit - 1)
		case f.s.Ops[op].Assoc:
			x = apply(op)
			for range 2 + source.Intn(6) {
				x.Args = append(x.Args, opened(source, f, treeOfKind(source, f.formsByText, f.argumentKind(op, 0), 1+source.Intn(2))))
			}
		}
		form, ok := f.canonicalTerm(x)
		if ok && f.sortsOf(form)>>sort&1 == 1 {
			return form
		}
	}
	return lowered(source, f.s, variableOf("y", sort))
}

// variablesIn gives the variables that occur in the values of a list.
func variablesIn(list []impl.Binding) []impl.Term {
	values := []impl.Term{}
	for _, b := range list {
		values = append(values, b.To)
	}
	return impl.VariablesOf(apply(0, values...))
}

// opened gives a tree with variables in place of some constants.
func opened(source *rand.Rand, f bindingsByText, t impl.Term) impl.Term {
	if t.Op >= 0 && len(t.Args) == 0 && source.Intn(4) > 0 {
		sorts := []int{}
		for sort, kind := range f.kinds {
			if kind == f.kindOf(t) {
				sorts = append(sorts, sort)
			}
		}
		return variableOf([]string{"x", "y", "z"}[source.Intn(3)], sorts[source.Intn(len(sorts))])
	}
	args := []impl.Term{}
	for _, arg := range t.Args {
		args = append(args, opened(source, f, arg))
	}
	return withArgs(t, args...)
}

// randomInstance gives a signature and a term of it.
func randomInstance(source *rand.Rand, depth int) (bindingsByText, impl.Term) {
	for {
		f := bindingTextFor(randomForms(source).s)
		if source.Intn(3) == 0 {
			f = bindingTextFor(sortedSignature(source))
		}
		x := treeOfKind(source, f.formsByText, f.kinds[source.Intn(len(f.kinds))], 1+source.Intn(depth))
		if form, ok := f.canonicalTerm(opened(source, f, x)); ok {
			return f, form
		}
	}
}

// spoiltBindings gives a list with one thing changed, which can make it invalid.
func spoiltBindings(source *rand.Rand, list []impl.Binding) []impl.Binding {
	list = slices.Clone(list)
	if len(list) == 0 {
		return []impl.Binding{{}}
	}
	i, j := source.Intn(len(list)), source.Intn(len(list))
	switch source.Intn(8) {
	case 0:
		list[i], list[j] = list[j], list[i]
	case 1:
		list[i].Var = spoiltTree(source, list[i].Var)
	case 2:
		list[i].To = spoiltTree(source, list[i].To)
	case 3:
		list[i].To = list[j].To
	case 4:
		list[i].To = list[j].Var
	case 5:
		list = slices.Insert(list, i, list[j])
	case 6:
		list[i].Var, list[i].To = list[i].To, list[i].Var
	default:
		list[i].Var.Sort = source.Intn(6)
	}
	return list
}

func TestRandomBindings(t *testing.T) {
	source := rand.New(rand.NewSource(50))
	valid, applied := map[bool]int{}, map[bool]int{}
	for range 2500 {
		f, x := randomInstance(source, 6)
		list := randomBindings(source, f, impl.VariablesOf(x), 10)
		valid[checkList(t, f, list)]++
		applied[checkInstance(t, f, list, x)]++
		spoilt := spoiltBindings(source, list)
		valid[checkList(t, f, spoilt)]++
		checkInstance(t, f, spoilt, x)
		checkInstance(t, f, list, spoiltTree(source, x))
		checkInstance(t, f, list, scrambled(source, f.formsByText, x))
		other := randomBindings(source, f, nil, 10)
		checkCompareLists(t, list, other, strings.Compare(bindingsKey(list), bindingsKey(other)))
		checkCompareLists(t, list, spoilt, strings.Compare(bindingsKey(list), bindingsKey(spoilt)))
	}
	if valid[true] < 2500 || valid[false] < 1000 || applied[true] < 1500 || applied[false] < 25 {
		t.Error("too few of one kind:", valid, applied)
	}
}

// keepsSorts tells whether what is left where a Unit is left out has all sorts of the application.
func (f bindingsByText) keepsSorts(op int) bool {
	unit := f.s.Ops[op].Unit - 1
	if unit < 0 {
		return true
	}
	sorts := f.sortsOf(apply(unit))
	for _, decl := range f.s.Ops[op].Decls {
		for place, k := range decl.Args {
			if sorts>>k&1 == 1 && !f.below[decl.Args[1-place]][decl.Result] {
				return false
			}
		}
	}
	return true
}

// Instances keep the sorts, unless a Unit takes them away.
func TestInstancesKeepTheSorts(t *testing.T) {
	source := rand.New(rand.NewSource(51))
	same, more, lost := 0, 0, 0
	for range 8000 {
		f, x := randomInstance(source, 5)
		keeps := true
		for op := range f.s.Ops {
			keeps = keeps && f.keepsSorts(op)
		}
		instance, ok := impl.ApplySubstitution(f.s, randomBindings(source, f, impl.VariablesOf(x), 8), x)
		if !ok || orderKey(instance) == orderKey(x) {
			continue
		}
		before, after := impl.SortsOf(f.s, x), impl.SortsOf(f.s, instance)
		switch {
		case impl.KindOfTerm(f.s, x) != impl.KindOfTerm(f.s, instance):
			t.Fatalf("%v became %v in %+v", x, instance, f.s)
		case before == after:
			same++
		case impl.IsSubset(before, after):
			more++
		case keeps:
			t.Fatalf("%v has the sorts %b, but %v has %b in %+v", x, before, instance, after, f.s)
		default:
			lost++
		}
	}
	if same < 2000 || more < 500 || lost == 0 {
		t.Error("too few of one kind:", same, more, lost)
	}
}

// Compositions are one substitution after the other.
func TestCompositionsAreOneAfterTheOther(t *testing.T) {
	source := rand.New(rand.NewSource(52))
	count := map[bool]int{}
	applied := 0
	for range 2500 {
		f, x := randomInstance(source, 4)
		most := 2 + source.Intn(14)
		a := randomBindings(source, f, impl.VariablesOf(x), most)
		b := randomBindings(source, f, append(variablesIn(a), impl.VariablesOf(x)...), most)
		want, ok := f.compose(a, b)
		checkCompose(t, f.s, a, b, want, ok)
		count[ok]++
		for _, y := range append(impl.VariablesOf(x), x) {
			if checkOneAfterTheOther(t, f.s, a, b, y) && orderKey(x) == orderKey(y) {
				applied++
			}
		}
		for _, binding := range slices.Concat(a, b) {
			checkOneAfterTheOther(t, f.s, a, b, binding.Var)
			checkOneAfterTheOther(t, f.s, a, b, binding.To)
		}
		spoilt := spoiltBindings(source, a)
		want, ok = f.compose(spoilt, b)
		checkCompose(t, f.s, spoilt, b, want, ok)
		want, ok = f.compose(b, spoilt)
		checkCompose(t, f.s, b, spoilt, want, ok)
	}
	if count[true] < 1500 || count[false] < 150 || applied < 1500 {
		t.Error("too few of one kind:", count, applied)
	}
}

// Three substitutions give the same, whichever two are composed first.
func TestCompositionsOfThree(t *testing.T) {
	source := rand.New(rand.NewSource(53))
	found := 0
	for range 4000 {
		f, _ := randomInstance(source, 2)
		a := randomBindings(source, f, nil, 3)
		b := randomBindings(source, f, variablesIn(a), 3)
		c := randomBindings(source, f, variablesIn(b), 3)
		first, firstOk := impl.ComposeSubstitutions(f.s, a, b)
		last, lastOk := impl.ComposeSubstitutions(f.s, b, c)
		left, leftOk := impl.ComposeSubstitutions(f.s, first, c)
		if _, ok := impl.ComposeSubstitutions(f.s, a, last); !firstOk || !lastOk || !leftOk || !ok {
			continue
		}
		checkCompose(t, f.s, a, last, left, true)
		if len(a) > 0 && len(b) > 0 && len(c) > 0 {
			found++
		}
	}
	if found < 1000 {
		t.Error("only", found)
	}
}

// termsIn gives all terms of a list, with unused capacity.
func termsIn(list []impl.Binding) []impl.Term {
	terms := []impl.Term{}
	for _, b := range list[:cap(list)] {
		terms = append(terms, b.Var, b.To)
	}
	return terms
}

// bindingNodes adds the memory of a list to seen; it tells whether none was there.
func bindingNodes(list []impl.Binding, seen map[*impl.Term]bool) bool {
	whole := list[:cap(list)]
	fresh := true
	for i := range whole {
		for _, node := range []*impl.Term{&whole[i].Var, &whole[i].To} {
			fresh = fresh && !seen[node]
			seen[node] = true
			fresh = nodesIn(node.Args, seen) && fresh
		}
	}
	return fresh
}

// spoilBindings changes all terms of a list, in unused capacity as well.
func spoilBindings(list []impl.Binding) {
	spoilTerms(termsIn(list))
	clear(list[:cap(list)])
}

// roomyBindings gives a copy of a list that has, as all Args in it, unused capacity with something in it.
func roomyBindings(list []impl.Binding) []impl.Binding {
	roomy := []impl.Binding{}
	for _, b := range list {
		roomy = append(roomy, impl.Binding{Var: roomyCopy(b.Var), To: roomyCopy(b.To)})
	}
	return append(roomy, impl.Binding{Var: variableOf("spare", 0), To: apply(0)}, impl.Binding{Var: apply(99)})[:len(list)]
}

// Nothing of what the functions get is changed, and what they return is new.
func TestSubstitutionsLeaveTheirArguments(t *testing.T) {
	source := rand.New(rand.NewSource(54))
	for range 2500 {
		f, x := randomInstance(source, 4)
		x = roomyCopy(x)
		a, b := roomyBindings(randomBindings(source, f, impl.VariablesOf(x), 4)), roomyBindings(randomBindings(source, f, impl.VariablesOf(x), 4))
		// Values can be the same memory, and so can both lists, also in part.
		switch source.Intn(5) {
		case 0:
			b = a
		case 1:
			b = a[len(a)/2:]
		case 2:
			a, b = a[:len(a)/2], a
		case 3:
			if len(a) > 0 && f.sortsOf(x)>>a[0].Var.Sort&1 == 1 {
				a[0].To = x
			}
		}
		before, beforeB, beforeX := wholeOf(termsIn(a)), wholeOf(termsIn(b)), wholeOf([]impl.Term{x})
		seen := map[*impl.Term]bool{}
		bindingNodes(a, seen)
		bindingNodes(b, seen)
		nodesIn([]impl.Term{x}, seen)
		for range 2 {
			checkList(t, f, a)
			checkList(t, f, b)
			checkInstance(t, f, a, x)
			impl.CompareSubstitutions(a, b)
			both, _ := impl.ComposeSubstitutions(f.s, a, b)
			back, _ := impl.ComposeSubstitutions(f.s, b, a)
			instance, _ := impl.ApplySubstitution(f.s, a, x)
			second, _ := impl.ApplySubstitution(f.s, b, x)
			results := []impl.Term{instance, second}
			if !bindingNodes(both, seen) || !bindingNodes(back, seen) || !nodesIn(results, seen) {
				t.Fatalf("a result for %v, %v and %v shares memory", a, b, x)
			}
			spoilBindings(both)
			spoilBindings(back)
			spoilTerms(results)
			if !reflect.DeepEqual(wholeOf(termsIn(a)), before) || !reflect.DeepEqual(wholeOf(termsIn(b)), beforeB) || !reflect.DeepEqual(wholeOf([]impl.Term{x}), beforeX) {
				t.Fatalf("%v, %v and %v, before %v, %v and %v", a, b, x, before, beforeB, beforeX)
			}
		}
	}
}

// A value is new at each place where it is put in, and where it is all that is left.
func TestValuesAreNewAtEachPlace(t *testing.T) {
	s := formSignature()
	value := roomyCopy(treeOf(s, "l(g(a), a, h(x:C, b))"))
	list := roomyBindings([]impl.Binding{{Var: variableOf("x", 2), To: value}, {Var: variableOf("y", 2), To: apply(0)}})
	for _, text := range []string{"x:C", "g(x:C)", "c(x:C, x:C)", "h(x:C, x:C)", "l(x:C, x:C)", "m(x:C, x:C, x:C)", "u(x:C, y:C)", "z(x:C, y:C, y:C)", "v(x:C, y:C)", "c(z(x:C, y:C), g(u(y:C, x:C)))", "c(z:C, l(a, b))"} {
		x := roomyCopy(treeOf(s, text))
		before := wholeOf(append(termsIn(list), x))
		seen := map[*impl.Term]bool{}
		bindingNodes(list, seen)
		nodesIn([]impl.Term{x}, seen)
		first, firstOk := impl.ApplySubstitution(s, list, x)
		second, secondOk := impl.ApplySubstitution(s, list, x)
		both, bothOk := impl.ComposeSubstitutions(s, roomyBindings([]impl.Binding{{Var: variableOf("w", 0), To: apply(0)}, {Var: variableOf("x", 2), To: apply(6, variableOf("x", 2), apply(0))}}), list)
		if !firstOk || !secondOk || !bothOk || len(both) != 3 {
			t.Fatal(first, second, both)
		}
		if !nodesIn([]impl.Term{first, second}, seen) || !bindingNodes(both, seen) {
			t.Error("shared memory:", text)
		}
		spoilTerms([]impl.Term{first, second})
		spoilBindings(both)
		if !reflect.DeepEqual(wholeOf(append(termsIn(list), x)), before) {
			t.Error(list, x)
		}
	}
}

func TestSubstitutionsLeaveTheSignature(t *testing.T) {
	s := fullSignature()
	f := bindingTextFor(s)
	for _, list := range [][]impl.Binding{nil, {{Var: variableOf("x", 1), To: apply(0)}}, {{Var: variableOf("x", 0), To: variableOf("x", 0)}, {Var: variableOf("x", 2), To: apply(1, variableOf("x", 0), variableOf("x", 1))}}, {{Var: variableOf("x", 0), To: apply(0)}}} {
		checkList(t, f, list)
		for _, x := range []impl.Term{apply(0), variableOf("x", 1), apply(1, variableOf("x", 0), variableOf("x", 1)), apply(1, variableOf("x", 1), variableOf("x", 2))} {
			checkInstance(t, f, list, x)
			checkOneAfterTheOther(t, s, list, list, x)
		}
		if !reflect.DeepEqual(withCapacity(s), withCapacity(fullSignature())) {
			t.Fatalf("%+v", withCapacity(s))
		}
	}
}
