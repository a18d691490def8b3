package tests

import (
	"math"
	"math/rand"
	"reflect"
	"runtime/debug"
	"slices"
	"strings"
	"testing"

	"loop.example/g03107/impl"
)

// formSignature gives as many operators as there may be: for each choice of axioms one on the kind of A, B and C, and some on two kinds.
func formSignature() impl.Signature {
	return signatureOf(twoKinds(), "a -A; b -B; d -D; g A-A; c AB-C; h CC-A comm; l CC-C AA-A assoc; m CC-C AB-B assoc comm; u BC-C unit=1; v CC-C comm unit=1; w CC-C assoc unit=2; z AA-A CC-C assoc comm unit=1; q CC-E comm; k ECD-D")
}

// treeOf reads a tree as it is written, such as "m(a, x:C)", with the names of the operators of s and the letters of the sorts.
func treeOf(s impl.Signature, text string) impl.Term {
	tree, rest := readTree(s, strings.ReplaceAll(text, " ", ""))
	if rest != "" {
		panic("no tree: " + text)
	}
	return tree
}

func readTree(s impl.Signature, text string) (impl.Term, string) {
	end := strings.IndexAny(text+")", ":(),")
	name, rest := text[:end], text[end:]
	if strings.HasPrefix(rest, ":") {
		return variableOf(name, int(rest[1])-'A'), rest[2:]
	}
	tree := apply(slices.IndexFunc(s.Ops, func(op impl.Op) bool { return op.Name == name }))
	if tree.Op < 0 {
		panic("no operator: " + text)
	}
	for end := byte(','); strings.HasPrefix(rest, "(") || end == ',' && len(tree.Args) > 0; {
		var arg impl.Term
		arg, rest = readTree(s, rest[1:])
		tree.Args = append(tree.Args, arg)
		end = rest[0]
		if end == ')' {
			return tree, rest[1:]
		}
	}
	return tree, rest
}

// treesOf reads trees that are separated by a semicolon.
func treesOf(s impl.Signature, texts string) []impl.Term {
	trees := []impl.Term{}
	if texts == "" {
		return trees
	}
	for _, text := range strings.Split(texts, ";") {
		trees = append(trees, treeOf(s, text))
	}
	return trees
}

// opNamed gives the index of an operator that exists.
func opNamed(s impl.Signature, name string) int {
	return treeOf(s, name).Op
}

// formsByText answers as the text of the chapter does, sentence by sentence, for a valid signature.
type formsByText struct {
	s     impl.Signature
	kinds []int
}

func textFor(s impl.Signature) formsByText {
	return formsByText{s: s, kinds: kindsBySearch(s.Sorts)}
}

// kindOf gives a number for the kind of a tree, -1 if it has none.
func (f formsByText) kindOf(t impl.Term) int {
	sort := t.Sort
	if t.Op != -1 {
		if t.Op < 0 || t.Op >= len(f.s.Ops) {
			return -1
		}
		sort = f.s.Ops[t.Op].Decls[0].Result
	}
	if sort < 0 || sort >= len(f.kinds) {
		return -1
	}
	return f.kinds[sort]
}

func (f formsByText) argumentKind(op, place int) int {
	decl := f.s.Ops[op].Decls[0]
	if f.s.Ops[op].Assoc {
		place = 0
	}
	return f.kinds[decl.Args[place]]
}

// isApplication tells whether the operator exists and the arguments have the number and the kinds.
func (f formsByText) isApplication(op int, args []impl.Term) bool {
	if op < 0 || op >= len(f.s.Ops) {
		return false
	}
	if f.s.Ops[op].Assoc && len(args) < 2 || !f.s.Ops[op].Assoc && len(args) != len(f.s.Ops[op].Decls[0].Args) {
		return false
	}
	for i, arg := range args {
		if f.kindOf(arg) != f.argumentKind(op, i) {
			return false
		}
	}
	return true
}

func (f formsByText) isVariable(t impl.Term) bool {
	return namePattern.MatchString(t.Name) && t.Name != "if" && t.Name != "and" && t.Sort >= 0 && t.Sort < len(f.kinds) && len(t.Args) == 0
}

func (f formsByText) isNode(t impl.Term) bool {
	if t.Op == -1 {
		return f.isVariable(t)
	}
	if t.Name != "" || t.Sort != 0 || !f.isApplication(t.Op, t.Args) {
		return false
	}
	op := f.s.Ops[t.Op]
	for i, arg := range t.Args {
		if op.Unit > 0 && arg.Op == op.Unit-1 || op.Assoc && arg.Op == t.Op {
			return false
		}
		if op.Comm && i > 0 && compareKeys(t.Args[i-1], arg) > 0 {
			return false
		}
	}
	return !op.Assoc || len(t.Args) <= 7
}

func (f formsByText) isTerm(t impl.Term) bool {
	parts := partsByText(t)
	if len(parts) > 60 || depthByText(t) > 20 {
		return false
	}
	return !slices.ContainsFunc(parts, func(part impl.Term) bool { return !f.isNode(part) })
}

func (f formsByText) makeTerm(op int, args []impl.Term) (impl.Term, bool) {
	if !f.isApplication(op, args) || slices.ContainsFunc(args, func(arg impl.Term) bool { return !f.isTerm(arg) }) {
		return impl.Term{}, false
	}
	flat := []impl.Term{}
	for _, arg := range args {
		if f.s.Ops[op].Assoc && arg.Op == op {
			flat = append(flat, arg.Args...)
		} else {
			flat = append(flat, arg)
		}
	}
	made := apply(op, flat...)
	if unit := f.s.Ops[op].Unit - 1; unit >= 0 {
		made.Args = slices.DeleteFunc(flat, func(arg impl.Term) bool { return arg.Op == unit })
		if len(made.Args) == 0 {
			made = apply(unit)
		} else if len(made.Args) == 1 {
			made = made.Args[0]
		}
	}
	if made.Op >= 0 && f.s.Ops[made.Op].Comm {
		made.Args = slices.Clone(made.Args)
		slices.SortFunc(made.Args, compareKeys)
	}
	if !f.isTerm(made) {
		return impl.Term{}, false
	}
	return made, true
}

func (f formsByText) canonicalTerm(t impl.Term) (impl.Term, bool) {
	if t.Op == -1 {
		return variableOf(t.Name, t.Sort), f.isVariable(t)
	}
	args := []impl.Term{}
	for _, arg := range t.Args {
		form, ok := f.canonicalTerm(arg)
		if !ok {
			return impl.Term{}, false
		}
		args = append(args, form)
	}
	if t.Name != "" || t.Sort != 0 {
		return impl.Term{}, false
	}
	return f.makeTerm(t.Op, args)
}

// isResult tells whether a function returned what it should; with false, this is the zero Term.
func isResult(got impl.Term, gotOk bool, want impl.Term, wantOk bool) bool {
	if !wantOk {
		want = impl.Term{}
	}
	return gotOk == wantOk && orderKey(got) == orderKey(want)
}

func checkIsTerm(t *testing.T, s impl.Signature, x impl.Term, want bool) {
	t.Helper()
	kind := -1
	if want {
		kind = textFor(s).kindOf(x) - 100
	}
	if got := impl.IsTerm(s, x); got != want {
		t.Fatalf("IsTerm(%+v, %v) = %v", s, x, got)
	}
	if got := impl.KindOfTerm(s, x); got != kind {
		t.Fatalf("KindOfTerm(%+v, %v) = %d, want %d", s, x, got, kind)
	}
}

func checkMake(t *testing.T, s impl.Signature, op int, args []impl.Term, want impl.Term, wantOk bool) {
	t.Helper()
	if got, ok := impl.MakeTerm(s, op, args); !isResult(got, ok, want, wantOk) {
		t.Fatalf("MakeTerm(%+v, %d, %v) = %v, %v, want %v, %v", s, op, args, got, ok, want, wantOk)
	}
}

// checkCanonical checks CanonicalTerm, and that a tree is a term exactly if it is its own canonical form.
func checkCanonical(t *testing.T, s impl.Signature, x, want impl.Term, wantOk bool) {
	t.Helper()
	if got, ok := impl.CanonicalTerm(s, x); !isResult(got, ok, want, wantOk) {
		t.Fatalf("CanonicalTerm(%+v, %v) = %v, %v, want %v, %v", s, x, got, ok, want, wantOk)
	}
	checkIsTerm(t, s, x, wantOk && orderKey(x) == orderKey(want))
	checkEqual(t, s, x, x, wantOk)
	if wantOk {
		checkEqual(t, s, x, want, true)
	}
}

func checkEqual(t *testing.T, s impl.Signature, a, b impl.Term, want bool) {
	t.Helper()
	if got, back := impl.EqualModulo(s, a, b), impl.EqualModulo(s, b, a); got != want || back != want {
		t.Fatalf("EqualModulo(%+v, %v, %v) = %v, and %v for both exchanged", s, a, b, got, back)
	}
}

// checkTree checks all functions for a tree against the text.
func checkTree(t *testing.T, s impl.Signature, x impl.Term) {
	t.Helper()
	f := textFor(s)
	form, ok := f.canonicalTerm(x)
	checkCanonical(t, s, x, form, ok)
	checkIsTerm(t, s, x, f.isTerm(x))
	made, madeOk := f.makeTerm(x.Op, x.Args)
	checkMake(t, s, x.Op, x.Args, made, madeOk)
	if madeOk {
		checkIsTerm(t, s, made, true)
	}
}

func TestSignatureOfForms(t *testing.T) {
	checkSignature(t, formSignature(), true)
	if len(formSignature().Ops) != impl.MaxOps {
		t.Error(len(formSignature().Ops))
	}
}

func TestMakeTerm(t *testing.T) {
	cases := []struct{ op, args, want string }{
		// Without axioms.
		{"a", "", "a"},
		{"d", "", "d"},
		{"g", "a", "g(a)"},
		{"g", "b", "g(b)"},
		{"g", "x:C", "g(x:C)"},
		{"g", "g(a)", "g(g(a))"},
		{"c", "b; a", "c(b, a)"},
		{"c", "a; a", "c(a, a)"},
		{"c", "c(a, b); c(b, a)", "c(c(a, b), c(b, a))"},
		{"k", "d; a; x:D", "k(d, a, x:D)"},
		{"k", "x:E; x:A; x:D", "k(x:E, x:A, x:D)"},
		// Only commutative.
		{"h", "a; b", "h(a, b)"},
		{"h", "b; a", "h(a, b)"},
		{"h", "b; b", "h(b, b)"},
		{"h", "a; x:C", "h(x:C, a)"},
		{"h", "y:A; x:C", "h(x:C, y:A)"},
		{"h", "x:C; x:B", "h(x:B, x:C)"},
		{"h", "h(a, b); a", "h(a, h(a, b))"},
		{"h", "h(a, b); h(a, a)", "h(h(a, a), h(a, b))"},
		{"q", "b; a", "q(a, b)"},
		// Only associative.
		{"l", "b; a", "l(b, a)"},
		{"l", "b; a; b", "l(b, a, b)"},
		{"l", "l(b, a); b", "l(b, a, b)"},
		{"l", "b; l(a, b)", "l(b, a, b)"},
		{"l", "l(b, a); l(a, b)", "l(b, a, a, b)"},
		{"l", "b; l(b, a); a; l(x:C, b, a)", "l(b, b, a, a, x:C, b, a)"},
		{"l", "m(a, b); w(a, a)", "l(m(a, b), w(a, a))"},
		{"l", "g(l(b, a)); a", "l(g(l(b, a)), a)"},
		// A variable is not left out where there is no Unit.
		{"l", "x:C; x:C", "l(x:C, x:C)"},
		{"m", "x:C; x:C; y:A", "m(x:C, x:C, y:A)"},
		{"h", "x:C; y:A", "h(x:C, y:A)"},
		{"c", "x:C; y:A", "c(x:C, y:A)"},
		// Associative and commutative.
		{"m", "b; a", "m(a, b)"},
		{"m", "b; m(a, g(a)); b; m(a, a)", "m(a, a, a, b, b, g(a))"},
		{"m", "l(b, a); z(b, b); a", "m(a, l(b, a), z(b, b))"},
		{"m", "b; x:C; a; x:B", "m(x:B, x:C, a, b)"},
		// Only with a Unit.
		{"u", "a; a", "a"},
		{"u", "a; b", "b"},
		{"u", "b; a", "b"},
		{"u", "b; b", "u(b, b)"},
		{"u", "g(a); b", "u(g(a), b)"},
		{"u", "x:C; a", "x:C"},
		{"u", "a; x:C", "x:C"},
		{"u", "x:C; y:C", "u(x:C, y:C)"},
		{"u", "u(b, b); a", "u(b, b)"},
		{"u", "a; u(b, b)", "u(b, b)"},
		{"u", "u(g(a), b); b", "u(u(g(a), b), b)"},
		{"u", "a; v(b, b)", "v(b, b)"},
		{"u", "l(b, a); a", "l(b, a)"},
		// Commutative with a Unit.
		{"v", "a; a", "a"},
		{"v", "a; b", "b"},
		{"v", "g(a); b", "v(b, g(a))"},
		{"v", "v(b, b); a", "v(b, b)"},
		{"v", "v(b, b); b", "v(b, v(b, b))"},
		{"v", "a; l(b, a)", "l(b, a)"},
		// Associative with a Unit.
		{"w", "b; b", "b"},
		{"w", "b; a", "a"},
		{"w", "a; b", "a"},
		{"w", "a; b; a", "w(a, a)"},
		{"w", "b; g(a); b; b; a; b", "w(g(a), a)"},
		{"w", "b; b; b; b", "b"},
		{"w", "b; b; x:C", "x:C"},
		{"w", "b; w(g(a), a)", "w(g(a), a)"},
		{"w", "w(g(a), a); b; w(a, a)", "w(g(a), a, a, a)"},
		{"w", "b; z(b, b); b", "z(b, b)"},
		{"w", "z(b, b); a", "w(z(b, b), a)"},
		// Associative and commutative with a Unit.
		{"z", "a; a", "a"},
		{"z", "a; a; a; a; a; a; a; a; a", "a"},
		{"z", "a; b; a", "b"},
		{"z", "b; a; b", "z(b, b)"},
		{"z", "g(a); b; a; x:C", "z(x:C, b, g(a))"},
		{"z", "z(b, g(a)); a", "z(b, g(a))"},
		{"z", "z(b, g(a)); z(x:A, b)", "z(x:A, b, b, g(a))"},
		{"z", "a; w(g(a), a); a", "w(g(a), a)"},
		{"z", "a; u(g(a), b); a", "u(g(a), b)"},
		// The Unit of another operator is an argument like any other.
		{"g", "a", "g(a)"},
		{"c", "a; b", "c(a, b)"},
		{"w", "a; a", "w(a, a)"},
		{"z", "b; b", "z(b, b)"},
		{"m", "a; a", "m(a, a)"},
	}
	s := formSignature()
	for _, c := range cases {
		op, args, want := opNamed(s, c.op), treesOf(s, c.args), treeOf(s, c.want)
		checkMake(t, s, op, args, want, true)
		checkIsTerm(t, s, want, true)
		checkCanonical(t, s, apply(op, args...), want, true)
	}
}

func TestMakeTermOfInvalidArguments(t *testing.T) {
	cases := []struct{ op, args string }{
		// The number of arguments.
		{"a", "a"},
		{"a", "x:C; a"},
		{"g", ""},
		{"g", "a; a"},
		{"c", "a"},
		{"c", "a; a; a"},
		{"h", ""},
		{"h", "a"},
		{"h", "a; a; a"},
		{"l", ""},
		{"l", "a"},
		{"l", "l(a, a)"},
		{"m", ""},
		{"m", "x:C"},
		{"u", ""},
		{"u", "a"},
		{"u", "b"},
		{"u", "b; b; b"},
		{"v", "b"},
		{"v", "b; b; b"},
		{"w", ""},
		{"w", "b"},
		{"w", "w(a, a)"},
		{"z", ""},
		{"z", "a"},
		{"z", "b"},
		{"k", "d; a"},
		{"k", "d; a; d; d"},
		// An operator with a Unit, but not associative, does not take more arguments, even if they are left out.
		{"u", "a; b; a"},
		{"u", "a; a; a"},
		{"v", "b; a; a; b"},
		// The kinds of arguments.
		{"g", "d"},
		{"g", "x:D"},
		{"c", "a; d"},
		{"c", "d; a"},
		{"h", "a; x:E"},
		{"l", "a; a; d"},
		{"l", "d; d"},
		{"m", "x:E; a"},
		{"u", "a; d"},
		{"v", "d; a"},
		{"w", "a; x:D; b"},
		{"z", "a; a; a; d"},
		{"z", "d; a"},
		{"q", "q(a, a); a"},
		{"k", "a; a; d"},
		{"k", "d; d; d"},
		{"k", "d; a; a"},
		{"k", "d; k(d, a, d); d"},
	}
	s := formSignature()
	for _, c := range cases {
		op, args := opNamed(s, c.op), treesOf(s, c.args)
		checkMake(t, s, op, args, impl.Term{}, false)
		checkCanonical(t, s, apply(op, args...), impl.Term{}, false)
	}
}

// MakeTerm takes only terms, where CanonicalTerm takes all trees.
func TestMakeTermTakesOnlyTerms(t *testing.T) {
	cases := []struct{ op, args, want string }{
		{"g", "h(b, a)", "g(h(a, b))"},
		{"g", "m(b, a)", "g(m(a, b))"},
		{"g", "z(a, b)", "g(b)"},
		{"g", "u(b, a)", "g(b)"},
		{"g", "u(a, a)", "g(a)"},
		{"g", "l(l(a, b), a)", "g(l(a, b, a))"},
		{"g", "g(g(v(a, b)))", "g(g(g(b)))"},
		{"l", "a; l(a, l(a, b))", "l(a, a, a, b)"},
		{"z", "b; z(b, a)", "z(b, b)"},
		{"z", "a; z(b, b, a, b)", "z(b, b, b)"},
		{"z", "z(a, a); a", "a"},
		{"z", "z(a, b); a", "b"},
		{"w", "u(a, b); a", "a"},
		{"w", "z(a, w(g(a), a)); b", "w(g(a), a)"},
		{"w", "u(w(g(a), a), a); v(a, w(a, a))", "w(g(a), a, a, a)"},
		{"u", "w(b, b); w(b, a)", "b"},
		{"h", "h(b, a); u(a, a)", "h(a, h(a, b))"},
		{"k", "k(d, h(b, a), d); a; d", "k(k(d, h(a, b), d), a, d)"},
	}
	s := formSignature()
	for _, c := range cases {
		op, args, want := opNamed(s, c.op), treesOf(s, c.args), treeOf(s, c.want)
		checkMake(t, s, op, args, impl.Term{}, false)
		checkCanonical(t, s, apply(op, args...), want, true)
		checkEqual(t, s, apply(op, args...), apply(3, want), false)
	}
}

func TestOperatorsThatDoNotExist(t *testing.T) {
	s := formSignature()
	a, b := apply(0), apply(1)
	for _, op := range append(wrongOps(), 14) {
		if op >= 0 && op < 14 {
			continue
		}
		for _, args := range [][]impl.Term{nil, {}, {a}, {a, b}, {a, b, a}, {a, b, a, b}} {
			checkMake(t, s, op, args, impl.Term{}, false)
			for _, tree := range []impl.Term{apply(op, args...), apply(3, apply(op, args...)), apply(11, a, apply(op, args...)), apply(5, apply(op, args...), b)} {
				checkCanonical(t, s, tree, impl.Term{}, false)
			}
			checkMake(t, s, 3, []impl.Term{apply(op, args...)}, impl.Term{}, false)
			checkMake(t, s, 11, []impl.Term{a, apply(op, args...)}, impl.Term{}, false)
		}
	}
	// Also the Op of a variable is no operator, whatever the arguments are.
	checkMake(t, s, -1, []impl.Term{variableOf("x", 0)}, impl.Term{}, false)
	for count := range 14 {
		part := impl.Signature{Sorts: s.Sorts, Ops: slices.Clone(s.Ops[:count])}
		for op := range s.Ops {
			tree := apply(op)
			for range len(s.Ops[op].Decls[0].Args) {
				tree.Args = append(tree.Args, variableOf("x", 0))
			}
			if op == 13 {
				tree.Args[0].Sort, tree.Args[2].Sort = 3, 4
			}
			checkCanonical(t, part, tree, tree, op < count)
			checkMake(t, part, op, tree.Args, tree, op < count)
		}
	}
}

func TestSignatureOfVariablesOnly(t *testing.T) {
	for _, ops := range [][]impl.Op{nil, {}} {
		s := impl.Signature{Sorts: sortsOf(2, ""), Ops: ops}
		x, y := variableOf("x", 0), variableOf("y", 1)
		checkCanonical(t, s, x, x, true)
		checkCanonical(t, s, y, y, true)
		checkCanonical(t, s, apply(0), impl.Term{}, false)
		checkMake(t, s, 0, nil, impl.Term{}, false)
		checkMake(t, s, -1, nil, impl.Term{}, false)
		checkEqual(t, s, x, y, false)
		if impl.KindOfTerm(s, x) != 0 || impl.KindOfTerm(s, y) != 1 {
			t.Error(impl.KindOfTerm(s, x), impl.KindOfTerm(s, y))
		}
	}
}

// aroundAll gives trees that have the given one at different places.
func aroundAll(x impl.Term) []impl.Term {
	a, b := apply(0), apply(1)
	return []impl.Term{x, apply(3, x), apply(4, x, a), apply(4, a, x), apply(5, x, b), apply(5, a, x), apply(6, a, a, x), apply(7, x, b, b), apply(8, x, a), apply(9, a, x), apply(10, a, x, b), apply(11, a, x), apply(11, x, apply(11, b, b), a), apply(3, apply(3, apply(11, a, apply(4, a, x))))}
}

// wrongVariables gives variables that no term has for formSignature: with other names, sorts that do not exist, or Args.
func wrongVariables() []impl.Term {
	wrong := []impl.Term{}
	for _, name := range []string{"", "if", "and", "1", "1x", "x1!", "x y", " x", "x:", "é", "x\x00", strings.Repeat("x", 13), strings.Repeat("x", 100000)} {
		wrong = append(wrong, variableOf(name, 0), variableOf(name, 2))
	}
	for _, sort := range append(wrongSorts(), 5, 6, 7) {
		wrong = append(wrong, variableOf("x", sort))
	}
	for _, arg := range []impl.Term{apply(0), variableOf("x", 0), {}, apply(-7), apply(3, apply(0))} {
		wrong = append(wrong, impl.Term{Op: -1, Name: "x", Sort: 0, Args: []impl.Term{arg}}, impl.Term{Op: -1, Name: "x", Sort: 0, Args: []impl.Term{arg, arg}})
	}
	return wrong
}

// unformedTrees gives trees that are no terms of formSignature, but have canonical forms.
func unformedTrees() []impl.Term {
	return treesOf(formSignature(), "h(b, a); l(l(b, a), b); l(b, l(a, b)); m(b, a); m(a, b, a); m(a, m(a, b)); u(a, b); u(b, a); v(a, b); w(a, b); w(a, b, a); z(a, b); z(b, b, a); z(b, z(b, b)); g(h(b, a)); g(u(a, a)); q(b, a); k(d, m(b, a), d)")
}

// noTerms gives trees that are no terms of formSignature.
func noTerms() []impl.Term {
	list := unformedTrees()
	for _, x := range wrongVariables() {
		list = append(list, aroundAll(x)...)
	}
	// Numbers and kinds of arguments, and sorts that do not exist.
	list = append(list, treesOf(formSignature(), "a(a); a(x:A, y:A); g; g(a, a); c(a); c(a, a, a); h(a); l(a); l; m(a); u(a); u(b, b, b); w(a); z(b); k(d, a); g(d); c(a, d); h(a, x:D); l(d, d); q(x:D, y:E); k(a, a, d); g(a(a)); x:F; x:G; x:H")...)
	for _, op := range append(wrongOps(), 14) {
		if op < -1 || op >= 14 {
			for _, args := range [][]impl.Term{nil, {apply(0)}, {apply(0), apply(1)}} {
				list = append(list, apply(op, args...), apply(3, apply(op, args...)))
			}
		}
	}
	for _, head := range []impl.Term{{Name: "x"}, {Name: "a"}, {Sort: 1}, {Sort: -1}, {Sort: 2}} {
		list = append(list, aroundAll(head)...)
	}
	return list
}

// endlessTrees gives values that are no terms of formSignature: some are very deep or wide, others contain themselves.
func endlessTrees() []impl.Term {
	a := apply(0)
	list := []impl.Term{chainOf(3, 300000, a), nested(11, []impl.Term{a}, a, 300000), apply(6, slices.Repeat([]impl.Term{a}, 300000)...)}
	for op := -1; op < 14; op++ {
		args := slices.Repeat([]impl.Term{a}, max(1, impl.ArityOf(formSignature(), op)))
		args[len(args)-1] = impl.Term{Op: op, Args: args}
		list = append(list, args[len(args)-1])
	}
	return list
}

func TestVariablesInForms(t *testing.T) {
	s := formSignature()
	long := strings.Repeat("x", 12)
	for _, name := range []string{"x", "X", "a", "C", "m", "z9", "If", "AND", long} {
		for sort := range 5 {
			x := variableOf(name, sort)
			checkCanonical(t, s, x, x, true)
			checkCanonical(t, s, impl.Term{Op: -1, Name: name, Sort: sort, Args: []impl.Term{}}, x, true)
			for _, tree := range aroundAll(x) {
				checkTree(t, s, tree)
			}
		}
	}
	for _, x := range wrongVariables() {
		for _, tree := range aroundAll(x) {
			checkCanonical(t, s, tree, impl.Term{}, false)
			checkMake(t, s, tree.Op, tree.Args, impl.Term{}, false)
			checkEqual(t, s, tree, apply(0), false)
		}
	}
}

// A node that is no variable has the empty Name and the Sort 0, also where it is a Unit.
func TestNodesWithNameOrSort(t *testing.T) {
	s := formSignature()
	a, b := apply(0), apply(1)
	for _, right := range []impl.Term{a, b, apply(3, b), apply(4, b, b), apply(5, a, b), apply(6, b, a, b), apply(7, a, b), apply(8, b, b), apply(9, b, b), apply(10, a, a), apply(11, b, b)} {
		for _, tree := range aroundAll(right) {
			checkTree(t, s, tree)
		}
		for _, head := range []impl.Term{{Name: "x"}, {Name: "a"}, {Name: " "}, {Sort: 1}, {Sort: -1}, {Sort: 2}, {Sort: math.MinInt}, {Sort: math.MaxInt}, {Name: "x", Sort: 1}} {
			wrong := impl.Term{Op: right.Op, Name: head.Name, Sort: head.Sort, Args: right.Args}
			for _, tree := range aroundAll(wrong) {
				checkCanonical(t, s, tree, impl.Term{}, false)
				if len(tree.Args) > 0 && orderKey(tree) != orderKey(wrong) {
					checkMake(t, s, tree.Op, tree.Args, impl.Term{}, false)
				}
			}
		}
	}
	// A Unit is a constant.
	for _, unit := range []impl.Term{apply(0, a), apply(0, b, b), apply(0, apply(0))} {
		for _, tree := range aroundAll(unit) {
			checkCanonical(t, s, tree, impl.Term{}, false)
		}
	}
}

func TestIsTerm(t *testing.T) {
	cases := []struct {
		text string
		want bool
	}{
		{"x:A", true}, {"a", true}, {"d", true}, {"g(b)", true}, {"c(b, a)", true}, {"k(d, a, x:E)", true},
		{"h(a, b)", true}, {"h(a, a)", true}, {"h(b, a)", false}, {"h(x:A, x:B)", true}, {"h(x:B, x:A)", false}, {"h(a, x:A)", false}, {"h(h(a, b), a)", false}, {"h(a, h(b, a))", false},
		{"l(b, a)", true}, {"l(b, a, b)", true}, {"l(b, l(a, b))", false}, {"l(l(b, a), b)", false}, {"l(a, a, l(a, a))", false}, {"l(a, m(b, b))", true},
		{"m(a, b)", true}, {"m(b, a)", false}, {"m(a, a, b)", true}, {"m(a, b, a)", false}, {"m(a, m(a, b))", false}, {"m(x:C, a)", true},
		{"u(b, b)", true}, {"u(g(a), b)", true}, {"u(a, b)", false}, {"u(b, a)", false}, {"u(a, a)", false}, {"u(x:A, y:A)", true}, {"u(u(b, b), b)", true}, {"u(b, u(a, b))", false},
		{"v(b, b)", true}, {"v(b, g(a))", true}, {"v(g(a), b)", false}, {"v(a, b)", false}, {"v(x:C, b)", true},
		{"w(a, a)", true}, {"w(a, b)", false}, {"w(a, a, b)", false}, {"w(a, b, a)", false}, {"w(w(a, a), a)", false}, {"w(g(b), a)", true},
		{"z(b, b)", true}, {"z(a, b)", false}, {"z(b, b, a)", false}, {"z(b, g(a))", true}, {"z(g(a), b)", false}, {"z(b, z(b, b))", false}, {"z(x:A, x:A, b)", true},
		{"g(u(a, b))", false}, {"g(g(h(b, a)))", false}, {"c(a, l(a, l(a, a)))", false}, {"k(d, m(b, a), d)", false}, {"k(k(d, m(a, b), d), a, d)", true},
	}
	s := formSignature()
	for _, c := range cases {
		tree := treeOf(s, c.text)
		checkIsTerm(t, s, tree, c.want)
		checkTree(t, s, tree)
		for _, around := range aroundAll(tree) {
			checkTree(t, s, around)
		}
	}
}

func TestKindOfTerm(t *testing.T) {
	cases := []struct {
		text string
		want int
	}{
		{"x:A", 0}, {"x:B", 0}, {"x:C", 0}, {"x:D", 3}, {"x:E", 3},
		{"a", 0}, {"b", 0}, {"d", 3}, {"g(b)", 0}, {"c(a, b)", 0}, {"l(x:B, x:C)", 0}, {"z(b, b)", 0}, {"q(a, b)", 3}, {"k(d, a, d)", 3},
		{"z(a, b)", -1}, {"h(b, a)", -1}, {"g(d)", -1}, {"q(d, d)", -1}, {"x:F", -1}, {"x:@", -1},
	}
	s := formSignature()
	for _, c := range cases {
		if got := impl.KindOfTerm(s, treeOf(s, c.text)); got != c.want {
			t.Errorf("KindOfTerm of %s is %d, want %d", c.text, got, c.want)
		}
	}
	// The least sort of a kind need not be the least one in the order of the sorts.
	other := signatureOf(sortsOf(6, "EC FC DB"), "a -E; b -D; f A-F")
	for text, want := range map[string]int{"a": 2, "b": 1, "f(x:A)": 2, "x:A": 0, "x:B": 1, "x:C": 2, "x:D": 1, "x:E": 2, "x:F": 2} {
		if got := impl.KindOfTerm(other, treeOf(other, text)); got != want {
			t.Errorf("KindOfTerm of %s is %d, want %d", text, got, want)
		}
	}
}

func TestEqualModulo(t *testing.T) {
	cases := []struct {
		a, b string
		want bool
	}{
		{"a", "a", true}, {"a", "b", false}, {"x:A", "x:A", true}, {"x:A", "x:B", false}, {"x:A", "y:A", false}, {"a", "x:A", false},
		{"c(a, b)", "c(b, a)", false}, {"h(a, b)", "h(b, a)", true}, {"h(h(a, b), b)", "h(a, h(b, b))", false}, {"h(h(a, b), b)", "h(b, h(b, a))", true},
		{"l(a, l(b, a))", "l(l(a, b), a)", true}, {"l(a, l(b, b))", "l(l(b, a), b)", false}, {"l(a, b)", "l(b, a)", false}, {"l(a, b)", "m(a, b)", false},
		{"m(m(a, b), a)", "m(a, a, b)", true}, {"m(a, a, b)", "m(a, b, b)", false}, {"m(a, a, b)", "m(a, b)", false}, {"m(a, a)", "a", false},
		{"u(a, b)", "b", true}, {"u(a, b)", "u(b, a)", true}, {"u(b, g(b))", "u(g(b), b)", false}, {"u(u(b, b), g(b))", "u(b, u(b, g(b)))", false},
		{"w(b, a)", "a", true}, {"w(a, g(a))", "w(a, b, g(a))", true}, {"w(a, g(a))", "w(g(a), a)", false}, {"w(b, b, b)", "b", true}, {"w(b, b)", "u(a, b)", true},
		{"z(a, a)", "a", true}, {"z(a, a)", "u(a, a)", true}, {"z(b, z(a, g(b)))", "z(g(b), b)", true}, {"z(b, b)", "b", false},
		{"g(z(b, a))", "g(b)", true}, {"g(z(b, a))", "g(a)", false}, {"k(d, h(b, a), d)", "k(d, h(a, b), d)", true}, {"d", "a", false}, {"q(a, b)", "q(b, a)", true},
		// Where one of them has no canonical form, nothing is equal.
		{"g(d)", "g(d)", false}, {"g(d)", "a", false}, {"z(a, d)", "d", false}, {"l(a, a, a, a, a, a, a, a)", "l(a, a, a, a, a, a, a, a)", false}, {"x:F", "x:F", false}, {"c(a)", "c(a)", false},
	}
	s := formSignature()
	for _, c := range cases {
		checkEqual(t, s, treeOf(s, c.a), treeOf(s, c.b), c.want)
	}
	checkEqual(t, s, impl.Term{Op: -7}, impl.Term{Op: -7}, false)
	checkEqual(t, s, apply(0), impl.Term{Op: 0, Args: []impl.Term{}}, true)
	checkEqual(t, impl.Signature{}, impl.Term{}, impl.Term{}, false)
	checkEqual(t, impl.Signature{}, variableOf("x", 0), variableOf("x", 0), false)
}

// checkNoForms checks all functions for a signature that is not valid.
func checkNoForms(t *testing.T, s impl.Signature, tree impl.Term) {
	t.Helper()
	checkSignature(t, s, false)
	checkCanonical(t, s, tree, impl.Term{}, false)
	checkMake(t, s, tree.Op, tree.Args, impl.Term{}, false)
	checkEqual(t, s, tree, tree, false)
}

// brokenSignatures gives signatures that are not valid, as one thing of formSignature is changed in each.
func brokenSignatures() []impl.Signature {
	changes := []func(s *impl.Signature){
		func(s *impl.Signature) { *s = impl.Signature{} },
		func(s *impl.Signature) { s.Sorts = impl.Sorts{} },
		func(s *impl.Signature) { s.Sorts.Names[4] = "A" },
		func(s *impl.Signature) { s.Sorts.Names[4] = "" },
		func(s *impl.Signature) { s.Sorts.Subs = append(s.Sorts.Subs, impl.Sub{Low: 2, High: 0}) },
		func(s *impl.Signature) { s.Sorts.Subs = append(s.Sorts.Subs, impl.Sub{Low: 2, High: 5}) },
		func(s *impl.Signature) { s.Ops[13].Name = "a" },
		func(s *impl.Signature) { s.Ops[13].Name = "if" },
		func(s *impl.Signature) { s.Ops[13].Decls = nil },
		func(s *impl.Signature) { s.Ops[13].Decls[0].Result = 5 },
		func(s *impl.Signature) { s.Ops[13].Decls[0].Args[0] = -1 },
		func(s *impl.Signature) { s.Ops[13].Assoc = true },
		func(s *impl.Signature) { s.Ops[12].Assoc = true },
		func(s *impl.Signature) { s.Ops[12].Unit = 1 },
		func(s *impl.Signature) { s.Ops[11].Unit = 3 },
		func(s *impl.Signature) { s.Ops[11].Unit = 4 },
		func(s *impl.Signature) { s.Ops[11].Unit = -1 },
		func(s *impl.Signature) { s.Ops[11].Unit = 15 },
		func(s *impl.Signature) { s.Ops = append(s.Ops, impl.Op{Name: "n", Decls: []impl.Decl{{}}}) },
	}
	broken := []impl.Signature{}
	for _, change := range changes {
		s := formSignature()
		change(&s)
		broken = append(broken, s)
	}
	return broken
}

func TestFormsOfInvalidSignatures(t *testing.T) {
	trees := treesOf(formSignature(), "x:A; a; d; g(a); c(a, b); h(a, b); l(a, b, a); m(a, b); u(b, b); u(a, b); v(b, b); w(a, a); z(b, b, b); q(a, b); k(d, a, d)")
	for _, s := range brokenSignatures() {
		for _, tree := range trees {
			checkNoForms(t, s, tree)
		}
	}
}

// leavesOf gives count small terms, of which no two that are adjacent are equal.
func leavesOf(count int) []impl.Term {
	leaves := []impl.Term{}
	for i := range count {
		leaves = append(leaves, []impl.Term{variableOf("x", 0), variableOf("y", 2), apply(3, apply(0))}[i%3])
	}
	return leaves
}

// The limit of the width is that of what is left when Args were put together and Units left out.
func TestWidth(t *testing.T) {
	s := formSignature()
	for _, op := range []int{6, 7, 10, 11} {
		for count := 2; count <= 20; count++ {
			flat := apply(op, leavesOf(count)...)
			checkTree(t, s, flat)
			if _, ok := impl.CanonicalTerm(s, flat); ok != (count <= 7) {
				t.Errorf("%d Args: %v", count, ok)
			}
			for first := 2; first < count && first <= 7; first++ {
				left, _ := textFor(s).makeTerm(op, flat.Args[:first])
				made, ok := impl.MakeTerm(s, op, append([]impl.Term{left}, flat.Args[first:]...))
				if ok != (count <= 7) || ok && len(made.Args) != count {
					t.Errorf("%d and %d Args: %v, %v", first, count-first, made, ok)
				}
				checkTree(t, s, apply(op, apply(op, flat.Args[:first]...), apply(4, flat.Args[0], left)))
				checkTree(t, s, apply(op, append([]impl.Term{left}, flat.Args[first:]...)...))
				checkTree(t, s, apply(op, append([]impl.Term{apply(op, flat.Args[:first]...)}, flat.Args[first:]...)...))
				if count-first >= 2 {
					checkTree(t, s, apply(op, apply(op, flat.Args[:first]...), apply(op, flat.Args[first:]...)))
				}
			}
		}
	}
	for _, op := range []int{10, 11} {
		unit := apply(11 - op)
		for count := range 10 {
			for _, units := range []int{1, 2, 5, 8, 100} {
				flat := append(leavesOf(count), slices.Repeat([]impl.Term{unit}, units)...)
				if len(flat) < 2 {
					continue
				}
				checkTree(t, s, apply(op, flat...))
				slices.Reverse(flat)
				checkTree(t, s, apply(op, flat...))
				if _, ok := impl.MakeTerm(s, op, flat); ok != (count <= 7) {
					t.Errorf("%d Args and %d Units: %v", count, units, ok)
				}
			}
		}
	}
}

// treeOfSize gives a term with a number of nodes that is not deep.
func treeOfSize(size int) impl.Term {
	if size == 1 {
		return variableOf("x", 0)
	}
	if size == 2 {
		return apply(3, apply(0))
	}
	half := (size - 1) / 2
	return apply(4, treeOfSize(half), treeOfSize(size-1-half))
}

func TestSizeOfForms(t *testing.T) {
	s := formSignature()
	a, x := apply(0), variableOf("x", 0)
	for _, size := range []int{3, 10, 57, 58, 59, 60, 61, 62, 63, 100, 1000} {
		tree := treeOfSize(size)
		checkCanonical(t, s, tree, tree, size <= 60)
		checkMake(t, s, 4, tree.Args, tree, size <= 60)
		checkMake(t, s, 3, []impl.Term{tree}, apply(3, tree), size+1 <= 60)
		checkMake(t, s, 5, []impl.Term{tree, x}, apply(5, x, tree), size+2 <= 60)
		checkMake(t, s, 6, []impl.Term{tree, x, a}, apply(6, tree, x, a), size+3 <= 60)
		// A tree can be larger than its canonical form.
		for _, op := range []int{8, 9, 11} {
			checkMake(t, s, op, []impl.Term{tree, a}, tree, size <= 60)
			checkMake(t, s, op, []impl.Term{a, tree}, tree, size <= 60)
			checkCanonical(t, s, apply(op, a, apply(op, tree, a)), tree, size <= 60)
			checkMake(t, s, op, []impl.Term{x, tree}, apply(op, x, tree), size+2 <= 60)
		}
		list := slices.Repeat([]impl.Term{a}, size)
		checkMake(t, s, 11, list, a, true)
		checkMake(t, s, 11, append(list, tree), tree, size <= 60)
		checkCanonical(t, s, apply(11, append(list, tree)...), tree, size <= 60)
		if size >= 5 {
			left, right := apply(6, treeOfSize(size/2-1), x), apply(6, a, treeOfSize(size-size/2-2))
			both := apply(6, left.Args[0], x, a, right.Args[1])
			checkMake(t, s, 6, []impl.Term{left, right}, both, size <= 60)
			checkCanonical(t, s, apply(6, left, right), both, size <= 60)
		}
	}
}

func TestDepthOfForms(t *testing.T) {
	s := formSignature()
	a, b, x := apply(0), apply(1), variableOf("x", 0)
	for depth := 2; depth <= 30; depth++ {
		for _, leaf := range []impl.Term{x, a} {
			chain := chainOf(3, depth-1, leaf)
			inside := depth <= 20
			checkCanonical(t, s, chain, chain, inside)
			checkMake(t, s, 3, chain.Args, chain, inside)
			checkMake(t, s, 4, []impl.Term{chain, a}, apply(4, chain, a), depth+1 <= 20)
			checkMake(t, s, 5, []impl.Term{chain, b}, apply(5, b, chain), depth+1 <= 20)
			checkMake(t, s, 8, []impl.Term{chain, chain}, apply(8, chain, chain), depth+1 <= 20)
			// A Unit that is left out and Args that are put together make no depth.
			checkMake(t, s, 8, []impl.Term{chain, a}, chain, inside)
			checkCanonical(t, s, apply(9, a, apply(11, chain, a)), chain, inside)
			list := apply(6, chain.Args[0], x)
			checkMake(t, s, 6, []impl.Term{list, b}, apply(6, chain.Args[0], x, b), inside)
			checkCanonical(t, s, apply(6, b, apply(6, b, list)), apply(6, b, b, chain.Args[0], x), inside)
			checkMake(t, s, 7, []impl.Term{list, b}, apply(7, b, list), depth+1 <= 20)
		}
	}
	// The limits hold for the form of each part.
	for _, wrong := range []impl.Term{chainOf(3, 20, a), treeOfSize(61), apply(6, leavesOf(8)...)} {
		for _, tree := range aroundAll(wrong) {
			checkCanonical(t, s, tree, impl.Term{}, false)
			checkMake(t, s, tree.Op, tree.Args, impl.Term{}, false)
		}
	}
}

// nested gives an operator, applied count times to one of args and what is inside, in turns in both orders.
func nested(op int, args []impl.Term, inside impl.Term, count int) impl.Term {
	for i := range count {
		inside = apply(op, args[i%len(args)], inside)
		if i%3 == 0 {
			inside.Args[0], inside.Args[1] = inside.Args[1], inside.Args[0]
		}
	}
	return inside
}

func TestDeepTreesInForm(t *testing.T) {
	s := formSignature()
	a, b, x := apply(0), apply(1), variableOf("x", 0)
	for _, depth := range []int{1, 5, 6, 7, 19, 20, 21, 60, 61, 1000} {
		for _, op := range []int{8, 9, 11} {
			checkCanonical(t, s, nested(op, []impl.Term{a}, b, depth), b, true)
			checkCanonical(t, s, nested(op, []impl.Term{a}, a, depth), a, true)
			checkCanonical(t, s, nested(op, []impl.Term{a}, apply(3, chainOf(3, 18, x)), depth), chainOf(3, 19, x), true)
			checkCanonical(t, s, nested(op, []impl.Term{a}, apply(3), depth), impl.Term{}, false)
		}
		checkCanonical(t, s, nested(7, []impl.Term{a}, a, depth), apply(7, slices.Repeat([]impl.Term{a}, depth+1)...), depth <= 6)
		checkCanonical(t, s, nested(3, nil, x, 0), x, true)
		checkCanonical(t, s, chainOf(3, depth, x), chainOf(3, depth, x), depth <= 19)
	}
}

// Deep trees need no deep calls, from whose end no function could recover.
func TestVeryDeepTreesInForm(t *testing.T) {
	const depth = 300000
	defer debug.SetMaxStack(debug.SetMaxStack(1 << 22))
	s := formSignature()
	a, b := apply(0), apply(1)
	units, chain := nested(11, []impl.Term{a}, b, depth), chainOf(3, depth, a)
	if form, ok := impl.CanonicalTerm(s, units); !ok || orderKey(form) != orderKey(b) {
		t.Error(form, ok)
	}
	if !impl.EqualModulo(s, units, b) || impl.IsTerm(s, units) || impl.IsTerm(s, chain) || impl.KindOfTerm(s, chain) != -1 || impl.EqualModulo(s, chain, chain) {
		t.Error("a deep tree")
	}
	for _, args := range [][]impl.Term{{units, a}, {chain, a}, {chain, chain}, {apply(5, chain, chain), apply(5, units, units)}} {
		if form, ok := impl.MakeTerm(s, 11, args); ok || orderKey(form) != orderKey(impl.Term{}) {
			t.Error(form, ok)
		}
		if form, ok := impl.CanonicalTerm(s, apply(5, args...)); ok != (args[0].Op == 11) || !ok && orderKey(form) != orderKey(impl.Term{}) {
			t.Error(form, ok)
		}
	}
}

func TestWideTreesInForm(t *testing.T) {
	const width = 30000
	s := formSignature()
	a, b, x := apply(0), apply(1), variableOf("x", 0)
	for _, op := range []int{6, 7, 10, 11} {
		for _, arg := range []impl.Term{a, b, x, apply(3, a)} {
			isUnit := op == 10 && arg.Op == 1 || op == 11 && arg.Op == 0
			args := slices.Repeat([]impl.Term{arg}, width)
			checkMake(t, s, op, args, arg, isUnit)
			checkCanonical(t, s, apply(op, args...), arg, isUnit)
			args[width/2] = apply(3, x)
			checkMake(t, s, op, args, apply(3, x), isUnit)
			args[width-1] = apply(3)
			checkMake(t, s, op, args, impl.Term{}, false)
			checkCanonical(t, s, apply(op, args...), impl.Term{}, false)
		}
	}
	wide := slices.Repeat([]impl.Term{a}, width)
	for _, op := range []int{-2, -1, 0, 3, 4, 5, 8, 9, 13, 14} {
		checkMake(t, s, op, wide, impl.Term{}, false)
		checkCanonical(t, s, apply(op, wide...), impl.Term{}, false)
	}
}

// A value can contain itself, but is no tree then, and there is an answer all the same.
func TestValuesThatContainThemselves(t *testing.T) {
	s := formSignature()
	a := apply(0)
	for op := -1; op < 14; op++ {
		for _, before := range []int{0, 1, 2, 5, 30, 200} {
			for circle := 1; circle <= 9; circle++ {
				args := slices.Repeat([]impl.Term{a}, max(1, impl.ArityOf(s, op)))
				inside := impl.Term{Op: op, Args: args}
				for range circle - 1 {
					inside = apply(11, a, apply(3, inside), a)
				}
				args[len(args)/2] = inside
				tree := nested(11, []impl.Term{a}, inside, before)
				if form, ok := impl.CanonicalTerm(s, tree); ok || form.Op != 0 || len(form.Args) > 0 {
					t.Fatal(form, ok)
				}
				if form, ok := impl.MakeTerm(s, op, args); ok || form.Op != 0 || len(form.Args) > 0 {
					t.Fatal(form, ok)
				}
				if impl.IsTerm(s, tree) || impl.KindOfTerm(s, tree) != -1 || impl.EqualModulo(s, tree, tree) || impl.EqualModulo(s, a, tree) {
					t.Fatal("a value that contains itself is a term")
				}
			}
		}
	}
	// The same part at several places of a tree is no circle.
	part := []impl.Term{apply(3, a), apply(1)}
	tree := apply(4, part...)
	for range 3 {
		tree = apply(4, apply(4, part...), tree)
	}
	checkCanonical(t, s, apply(11, apply(3, tree), apply(3, tree)), apply(11, apply(3, tree), apply(3, tree)), true)
}

// A nil slice and an empty one are the same list of Args.
func TestFormsWithEmptySlices(t *testing.T) {
	s := formSignature()
	a, empty := apply(0), impl.Term{Op: 0, Args: []impl.Term{}}
	x, emptyX := variableOf("x", 0), impl.Term{Op: -1, Name: "x", Sort: 0, Args: []impl.Term{}}
	for _, args := range [][]impl.Term{nil, {}, make([]impl.Term, 5)[:0]} {
		for op := range s.Ops {
			checkMake(t, s, op, args, apply(op), op < 3)
			checkCanonical(t, s, apply(op, args...), apply(op), op < 3)
		}
	}
	checkCanonical(t, s, empty, a, true)
	checkCanonical(t, s, emptyX, x, true)
	checkCanonical(t, s, apply(11, empty, emptyX), x, true)
	checkMake(t, s, 11, []impl.Term{empty, emptyX}, x, true)
	checkMake(t, s, 4, []impl.Term{empty, emptyX}, apply(4, a, x), true)
	checkEqual(t, s, apply(4, empty, x), apply(4, a, emptyX), true)
}

// oneKind gives a signature with the constants e and a, the operator f of arity 1, and operators of arity 2 with a choice of axioms each.
// A choice is a number: 1 for associative, 2 for commutative and 4 for the Unit e, or 8 for the Unit a.
func oneKind(choices ...int) impl.Signature {
	s := signatureOf(sortsOf(2, "AB"), "e -A; a -B; f B-B")
	for i, choice := range choices {
		op := impl.Op{Name: string(rune('m' + i)), Decls: []impl.Decl{{Args: []int{1, 1}, Result: 1}}}
		op.Assoc, op.Comm, op.Unit = choice&1 > 0, choice&2 > 0, choice>>2
		s.Ops = append(s.Ops, op)
	}
	return s
}

// treesUpTo gives all trees of a signature of one kind with one variable that have at most that many nodes.
func treesUpTo(s impl.Signature, most int) []impl.Term {
	all, bySize, lists := []impl.Term{}, make([][]impl.Term, most+1), make([][][]impl.Term, most+1)
	bySize[1] = []impl.Term{variableOf("x", 0)}
	for size := 1; size <= most; size++ {
		for index, op := range s.Ops {
			for _, args := range append(lists[size-1], nil) {
				if len(args) == 0 && size > 1 {
					continue
				}
				if len(args) == len(op.Decls[0].Args) || op.Assoc && len(args) > 1 {
					bySize[size] = append(bySize[size], apply(index, args...))
				}
			}
		}
		all = append(all, bySize[size]...)
		for last := 1; last <= size; last++ {
			for _, tree := range bySize[last] {
				if last == size {
					lists[size] = append(lists[size], []impl.Term{tree})
				}
				for _, before := range lists[size-last] {
					lists[size] = append(lists[size], append(slices.Clone(before), tree))
				}
			}
		}
	}
	return all
}

// withArg gives t with another argument at one place.
func withArg(t impl.Term, place int, arg impl.Term) impl.Term {
	args := slices.Clone(t.Args)
	args[place] = arg
	return withArgs(t, args...)
}

// stepsOf gives the trees that one axiom, used once somewhere in t, makes equal to t, as far as they are not larger.
func stepsOf(s impl.Signature, t impl.Term) []impl.Term {
	steps := []impl.Term{}
	if t.Op == -1 {
		return steps
	}
	op := s.Ops[t.Op]
	for i, arg := range t.Args {
		for _, step := range stepsOf(s, arg) {
			steps = append(steps, withArg(t, i, step))
		}
		if op.Comm && i > 0 {
			steps = append(steps, withArg(withArg(t, i, t.Args[i-1]), i-1, arg))
		}
		if op.Assoc && arg.Op == t.Op {
			steps = append(steps, withArgs(t, slices.Concat(t.Args[:i], arg.Args, t.Args[i+1:])...))
		}
		if op.Unit == 0 || arg.Op != op.Unit-1 {
			continue
		}
		if rest := slices.Concat(t.Args[:i], t.Args[i+1:]); len(rest) == 1 {
			steps = append(steps, rest[0])
		} else {
			steps = append(steps, withArgs(t, rest...))
		}
	}
	return steps
}

// classesOf gives for each tree a number that two trees share exactly if the axioms make them equal.
func classesOf(s impl.Signature, trees []impl.Term) map[string]int {
	classes := map[string]int{}
	for _, tree := range trees {
		// A step leads to a tree with fewer nodes or to one with as many, so it has been there or follows.
		classes[orderKey(tree)] = len(classes)
	}
	above := make([]int, len(classes))
	for i := range above {
		above[i] = i
	}
	find := func(i int) int {
		for above[i] != i {
			i, above[i] = above[i], above[above[i]]
		}
		return i
	}
	for _, tree := range trees {
		for _, step := range stepsOf(s, tree) {
			above[find(classes[orderKey(step)])] = find(classes[orderKey(tree)])
		}
	}
	for key, i := range classes {
		classes[key] = find(i)
	}
	return classes
}

// checkClasses checks that the canonical form is equal by the axioms, and the same exactly for what is equal by the axioms.
func checkClasses(t *testing.T, s impl.Signature, trees []impl.Term) {
	t.Helper()
	classes := classesOf(s, trees)
	forms := map[int]string{}
	for _, tree := range trees {
		form, ok := impl.CanonicalTerm(s, tree)
		class := classes[orderKey(tree)]
		if formClass, known := classes[orderKey(form)]; !ok || !known || formClass != class {
			t.Fatalf("CanonicalTerm(%+v, %v) = %v, %v", s, tree, form, ok)
		}
		if other, known := forms[class]; known && other != orderKey(form) {
			t.Fatalf("CanonicalTerm(%+v, %v) = %v, but another tree that is equal has another form", s, tree, form)
		}
		forms[class] = orderKey(form)
		if got := impl.IsTerm(s, tree); got != (orderKey(form) == orderKey(tree)) {
			t.Fatalf("IsTerm(%+v, %v) = %v, the form is %v", s, tree, got, form)
		}
	}
}

// Two trees have the same form exactly if the axioms make them equal, with each choice of axioms.
func TestFormsAreTheSameExactlyForEqualTrees(t *testing.T) {
	for _, choice := range []int{0, 1, 2, 3, 4, 5, 6, 7, 9, 11} {
		s := oneKind(choice)
		trees := treesUpTo(s, 6)
		if len(trees) < 400 {
			t.Fatal("only", len(trees), "trees")
		}
		checkClasses(t, s, trees)
		for _, other := range []int{0, 1, 2, 3, 4, 5, 6, 7, 8, 9, 10, 11} {
			both := oneKind(choice, other)
			checkClasses(t, both, treesUpTo(both, 5))
		}
	}
}

// EqualModulo compares any two trees as the classes do.
func TestEqualModuloOfAllPairs(t *testing.T) {
	for choice := range 8 {
		s := oneKind(choice, 7)
		trees := treesUpTo(s, 4)
		classes := classesOf(s, trees)
		for _, a := range trees {
			for _, b := range trees[:60] {
				if got := impl.EqualModulo(s, a, b); got != (classes[orderKey(a)] == classes[orderKey(b)]) {
					t.Fatalf("EqualModulo(%+v, %v, %v) = %v", s, a, b, got)
				}
			}
		}
	}
}

// treeOfKind gives a tree with kinds that fit, or nearly always.
func treeOfKind(source *rand.Rand, f formsByText, kind, depth int) impl.Term {
	fitting := []int{}
	wantsArgs := depth > 1 && source.Intn(4) > 0
	for i := range f.s.Ops {
		if f.kindOf(apply(i)) == kind && (len(f.s.Ops[i].Decls[0].Args) > 0) == wantsArgs {
			fitting = append(fitting, i)
		}
	}
	if len(fitting) == 0 || source.Intn(10) == 0 {
		for {
			if sort := source.Intn(len(f.kinds)); f.kinds[sort] == kind || source.Intn(100) == 0 {
				return variableOf([]string{"x", "y"}[source.Intn(2)], sort)
			}
		}
	}
	tree := apply(fitting[source.Intn(len(fitting))])
	count := len(f.s.Ops[tree.Op].Decls[0].Args)
	if f.s.Ops[tree.Op].Assoc {
		count += source.Intn(2) * source.Intn(6)
	}
	for i := range count {
		tree.Args = append(tree.Args, treeOfKind(source, f, f.argumentKind(tree.Op, i), depth-1))
	}
	return tree
}

// spoiltTree gives t with one thing changed, which can make it invalid.
func spoiltTree(source *rand.Rand, t impl.Term) impl.Term {
	if len(t.Args) > 0 && source.Intn(4) > 0 {
		place := source.Intn(len(t.Args))
		return withArg(t, place, spoiltTree(source, t.Args[place]))
	}
	switch source.Intn(7) {
	case 0:
		t.Op = source.Intn(18) - 2
	case 1:
		t.Name += []string{"x", "z", "!", "9"}[source.Intn(4)]
	case 2:
		t.Name = ""
	case 3:
		t.Sort = source.Intn(10) - 1
	case 4:
		t.Args = append(slices.Clone(t.Args), apply(source.Intn(3)))
	case 5:
		t.Args = t.Args[:len(t.Args)/2]
	default:
		t.Args = append([]impl.Term{t}, t.Args...)
	}
	return t
}

// randomForms gives a signature with operators, and the kinds of its sorts.
func randomForms(source *rand.Rand) formsByText {
	if source.Intn(4) > 0 {
		return textFor(formSignature())
	}
	for {
		if s := validPart(randomSignature(source)); len(s.Ops) > 3 {
			return textFor(s)
		}
	}
}

func TestRandomTreesInForm(t *testing.T) {
	source := rand.New(rand.NewSource(20))
	terms, formed, failed := 0, 0, 0
	for range 6000 {
		f := randomForms(source)
		x := treeOfKind(source, f, f.kinds[source.Intn(len(f.kinds))], 2+source.Intn(5))
		checkTree(t, f.s, x)
		form, ok := f.canonicalTerm(x)
		if !ok {
			failed++
			continue
		}
		formed++
		if f.isTerm(x) {
			terms++
		}
		checkTree(t, f.s, form)
		for range 3 {
			checkTree(t, f.s, spoiltTree(source, x))
			checkTree(t, f.s, spoiltTree(source, form))
		}
	}
	if terms < 1000 || formed-terms < 1000 || failed < 200 {
		t.Error("too few of one sort:", terms, formed, failed)
	}
}

// MakeTerm of terms is the form of their application, and CanonicalTerm of the application gives the same.
func TestMakeTermIsTheFormOfTheApplication(t *testing.T) {
	source := rand.New(rand.NewSource(21))
	made := 0
	for range 6000 {
		f := randomForms(source)
		op := source.Intn(len(f.s.Ops))
		count := len(f.s.Ops[op].Decls[0].Args)
		if f.s.Ops[op].Assoc {
			count += source.Intn(5)
		}
		args := []impl.Term{}
		for i := range count {
			for {
				form, ok := f.canonicalTerm(treeOfKind(source, f, f.argumentKind(op, i), 1+source.Intn(3)))
				if ok {
					args = append(args, form)
					break
				}
			}
		}
		want, ok := f.makeTerm(op, args)
		checkMake(t, f.s, op, args, want, ok)
		checkCanonical(t, f.s, apply(op, args...), want, ok)
		if ok {
			made++
		}
	}
	if made < 4000 {
		t.Error("only", made)
	}
}

// scrambled gives a tree that the axioms make equal to t: Args are exchanged and put into groups, and Units put in.
func scrambled(source *rand.Rand, f formsByText, t impl.Term) impl.Term {
	args := []impl.Term{}
	for _, arg := range t.Args {
		args = append(args, scrambled(source, f, arg))
	}
	if t.Op >= 0 && f.s.Ops[t.Op].Comm {
		source.Shuffle(len(args), func(i, j int) { args[i], args[j] = args[j], args[i] })
	}
	if t.Op >= 0 && f.s.Ops[t.Op].Assoc {
		for len(args) > 2 && source.Intn(2) == 0 {
			start := source.Intn(len(args) - 1)
			end := start + 2 + source.Intn(len(args)-start-1)
			if end-start < len(args) {
				args = slices.Replace(args, start, end, apply(t.Op, slices.Clone(args[start:end])...))
			}
		}
	}
	t.Args = args
	for i, op := range f.s.Ops {
		if op.Unit > 0 && f.kindOf(apply(i)) == f.kindOf(t) && source.Intn(8) == 0 {
			t = apply(i, t, apply(op.Unit-1))
			place := source.Intn(2)
			t.Args[0], t.Args[1] = t.Args[place], t.Args[1-place]
		}
	}
	return t
}

// The axioms do not change the canonical form.
func TestAxiomsDoNotChangeTheForm(t *testing.T) {
	source := rand.New(rand.NewSource(22))
	changed := 0
	for range 4000 {
		f := randomForms(source)
		x := treeOfKind(source, f, f.kinds[source.Intn(len(f.kinds))], 2+source.Intn(5))
		form, ok := impl.CanonicalTerm(f.s, x)
		for range 4 {
			y := scrambled(source, f, x)
			checkCanonical(t, f.s, y, form, ok)
			checkEqual(t, f.s, x, y, ok)
			if ok {
				checkCanonical(t, f.s, scrambled(source, f, form), form, true)
			}
			if orderKey(x) != orderKey(y) {
				changed++
			}
		}
	}
	if changed < 8000 {
		t.Error("only", changed)
	}
}

// Trees with the same parts at other places are equal only if the text says so.
func TestRandomPairsInForm(t *testing.T) {
	source := rand.New(rand.NewSource(23))
	count := map[bool]int{}
	for range 20000 {
		f := textFor(oneKind(source.Intn(8), source.Intn(12)))
		kind := f.kinds[0]
		a, b := treeOfKind(source, f, kind, 3), treeOfKind(source, f, kind, 3)
		if source.Intn(2) == 0 && len(a.Args) > 1 {
			b = withArgs(a, slices.Clone(a.Args)...)
			slices.Reverse(b.Args)
		}
		first, firstOk := f.canonicalTerm(a)
		second, secondOk := f.canonicalTerm(b)
		want := firstOk && secondOk && orderKey(first) == orderKey(second)
		checkEqual(t, f.s, a, b, want)
		count[want]++
	}
	if count[true] < 1000 || count[false] < 1000 {
		t.Error("too few of one kind:", count)
	}
}

// roomyCopy gives a copy of a tree, in which Args have unused capacity with something in it.
func roomyCopy(t impl.Term) impl.Term {
	args := []impl.Term{}
	for _, arg := range t.Args {
		args = append(args, roomyCopy(arg))
	}
	count := len(args)
	args = append(args, variableOf("spare", 0), apply(0), apply(99))
	return withArgs(t, args[:count]...)
}

// Nothing of what the functions get is changed, and what they return is new.
func TestFormsLeaveTheirArguments(t *testing.T) {
	source := rand.New(rand.NewSource(24))
	for range 3000 {
		f := randomForms(source)
		x := treeOfKind(source, f, f.kinds[source.Intn(len(f.kinds))], 1+source.Intn(4))
		if form, ok := f.canonicalTerm(x); ok && source.Intn(2) == 0 {
			x = form
		}
		args := []impl.Term{roomyCopy(x), {}, roomyCopy(x), roomyCopy(x)}
		// Parts can be the same memory.
		args[1] = args[0]
		args = args[:source.Intn(4)]
		tree := apply(source.Intn(len(f.s.Ops)), args...)
		list := append([]impl.Term{tree}, args...)
		want := wholeOf(list)
		seen := map[*impl.Term]bool{}
		nodesIn(list, seen)
		for range 2 {
			results := []impl.Term{}
			for _, y := range list {
				form, _ := impl.CanonicalTerm(f.s, y)
				made, _ := impl.MakeTerm(f.s, y.Op, y.Args)
				results = append(results, form, made)
				impl.IsTerm(f.s, y)
				impl.KindOfTerm(f.s, y)
				impl.EqualModulo(f.s, y, tree)
			}
			if !nodesIn(results, seen) {
				t.Fatalf("a result for %v shares memory", list)
			}
			spoilTerms(results)
			if got := wholeOf(list); !reflect.DeepEqual(got, want) {
				t.Fatalf("%v, before %v", got, want)
			}
		}
	}
}

// What is left of the arguments is new as well where a Unit leaves only one.
func TestWhatAUnitLeavesIsNew(t *testing.T) {
	s := formSignature()
	for _, op := range []int{8, 9, 11} {
		left := roomyCopy(treeOf(s, "w(g(a), a, c(x:C, b))"))
		args := []impl.Term{apply(0), left, apply(7), variableOf("x", 0)}[:2]
		want := wholeOf(args)
		seen := map[*impl.Term]bool{}
		nodesIn(args, seen)
		first, firstOk := impl.MakeTerm(s, op, args)
		second, secondOk := impl.CanonicalTerm(s, apply(op, args...))
		if !firstOk || !secondOk || !nodesIn([]impl.Term{first, second}, seen) {
			t.Error("shared memory:", first, second)
		}
		spoilTerms(first.Args)
		spoilTerms(second.Args)
		if !reflect.DeepEqual(wholeOf(args), want) {
			t.Error(args)
		}
	}
}

func TestFormsLeaveTheSignature(t *testing.T) {
	s := fullSignature()
	e, x := apply(0), variableOf("x", 0)
	for _, tree := range []impl.Term{e, x, apply(1, x, e), apply(1, x, apply(1, x, x), e), apply(2), apply(1, e), apply(1, apply(2), e)} {
		checkTree(t, s, tree)
		checkEqual(t, s, tree, x, tree.Op == -1 || len(tree.Args) == 2 && tree.Args[0].Op == -1)
		if !reflect.DeepEqual(withCapacity(s), withCapacity(fullSignature())) {
			t.Fatalf("%+v", withCapacity(s))
		}
	}
}
