package tests

import (
	"fmt"
	"math/rand"
	"reflect"
	"regexp"
	"runtime/debug"
	"slices"
	"strings"
	"testing"

	"loop.example/g03107/impl"
)

// textsByText answers as the text of the chapter does, sentence by sentence, for a valid signature.
type textsByText struct{ formsByText }

func readingFor(s impl.Signature) textsByText {
	return textsByText{textFor(s)}
}

// format gives the text of any tree that has existing operators and sorts.
func (f textsByText) format(t impl.Term) string {
	if t.Op == -1 {
		return t.Name + ":" + f.s.Sorts.Names[t.Sort]
	}
	text := f.s.Ops[t.Op].Name
	for i, arg := range t.Args {
		text += []string{"(", ", "}[min(i, 1)] + f.format(arg)
	}
	return text + strings.Repeat(")", min(1, len(t.Args)))
}

var (
	tokenPattern       = regexp.MustCompile(`\A *([a-zA-Z0-9]+|[:(),]) *`)
	variablePattern    = regexp.MustCompile(`([a-zA-Z0-9]+):([a-zA-Z0-9]+)`)
	headPattern        = regexp.MustCompile(`[a-zA-Z0-9]+\(?`)
	applicationPattern = regexp.MustCompile(`([a-zA-Z0-9]+)\(([\x{E000}-\x{F8FF}](,[\x{E000}-\x{F8FF}])*)\)`)
)

// tokensOf gives the names and signs of a text without the spaces around them.
func tokensOf(text string) ([]string, bool) {
	tokens := []string{}
	for text != "" {
		match := tokenPattern.FindStringSubmatch(text)
		if match == nil {
			return nil, false
		}
		tokens = append(tokens, match[1])
		text = text[len(match[0]):]
	}
	return tokens, true
}

// built is the list of trees that were built from parts of a text; a letter that occurs in no text stands for each of them in it.
type built []impl.Term

func (list *built) letter(t impl.Term) string {
	*list = append(*list, t)
	return string(rune(0xE000 + len(*list) - 1))
}

func (list *built) tree(letter string) impl.Term {
	return (*list)[[]rune(letter)[0]-0xE000]
}

// read gives the tree that a text writes, as it is written: first the variables, then the constants, then applications to what is there already.
// Where an operator or a sort does not exist, the tree has a number that is none.
func (f textsByText) read(text string) (impl.Term, bool) {
	tokens, ok := tokensOf(text)
	for i := range tokens {
		ok = ok && (i == 0 || strings.Contains(":(),", tokens[i]) || strings.Contains(":(),", tokens[i-1]))
	}
	if !ok {
		return impl.Term{}, false
	}
	list := &built{}
	text = variablePattern.ReplaceAllStringFunc(strings.Join(tokens, ""), func(part string) string {
		name, sort, _ := strings.Cut(part, ":")
		return list.letter(variableOf(name, slices.Index(f.s.Sorts.Names, sort)))
	})
	text = headPattern.ReplaceAllStringFunc(text, func(part string) string {
		if strings.HasSuffix(part, "(") {
			return part
		}
		return list.letter(apply(f.opNamed(part)))
	})
	for before := ""; before != text; {
		before = text
		text = applicationPattern.ReplaceAllStringFunc(text, func(part string) string {
			name, letters, _ := strings.Cut(strings.TrimSuffix(part, ")"), "(")
			tree := apply(f.opNamed(name))
			for _, letter := range strings.Split(letters, ",") {
				tree.Args = append(tree.Args, list.tree(letter))
			}
			return list.letter(tree)
		})
	}
	if letters := []rune(text); len(letters) != 1 || letters[0] < 0xE000 {
		return impl.Term{}, false
	}
	return list.tree(text), true
}

// opNamed gives the index of an operator, or a number that is none.
func (f textsByText) opNamed(name string) int {
	index := slices.IndexFunc(f.s.Ops, func(op impl.Op) bool { return op.Name == name })
	if index == -1 {
		return -7
	}
	return index
}

// parse gives the term that a text denotes.
func (f textsByText) parse(text string) (impl.Term, bool) {
	if len(text) > 2000 {
		return impl.Term{}, false
	}
	tree, ok := f.read(text)
	if !ok || depthByText(tree) > 20 {
		return impl.Term{}, false
	}
	return f.canonicalTerm(tree)
}

func checkFormat(t *testing.T, s impl.Signature, x impl.Term, want string) {
	t.Helper()
	if got := impl.FormatTerm(s, x); got != want {
		t.Fatalf("FormatTerm(%+v, %v) = %q, want %q", s, x, got, want)
	}
}

func checkRead(t *testing.T, s impl.Signature, text string, want impl.Term, wantOk bool) {
	t.Helper()
	if got, ok := impl.ParseTerm(s, text); !isResult(got, ok, want, wantOk) {
		t.Fatalf("ParseTerm(%+v, %.3000q) = %v, %v, want %v, %v", s, text, got, ok, want, wantOk)
	}
}

func checkUnreadable(t *testing.T, s impl.Signature, text string) {
	t.Helper()
	checkRead(t, s, text, impl.Term{}, false)
}

// checkReading checks what is read from a text against the text of the chapter, and tells whether it is a term.
// The text of what is read is read again as the same term.
func checkReading(t *testing.T, f textsByText, text string) bool {
	t.Helper()
	want, ok := f.parse(text)
	checkRead(t, f.s, text, want, ok)
	if ok {
		checkTextOf(t, f, want)
	}
	return ok
}

// checkTextOf checks the text of a tree: that of a term is read again as this term, and what is no term has none.
func checkTextOf(t *testing.T, f textsByText, x impl.Term) {
	t.Helper()
	if !f.isTerm(x) {
		checkFormat(t, f.s, x, "")
		return
	}
	want := f.format(x)
	checkFormat(t, f.s, x, want)
	checkRead(t, f.s, want, x, true)
}

// checkNoText checks that a tree that is no term has no text.
func checkNoText(t *testing.T, s impl.Signature, x impl.Term) {
	t.Helper()
	checkFormat(t, s, x, "")
}

// namedSignature gives one kind with names of which some begin with others, and some are those of other things as well.
func namedSignature() impl.Signature {
	sorts := impl.Sorts{Names: []string{"Nat", "N", "zero", "Natural12345"}, Subs: []impl.Sub{{Low: 0, High: 3}, {Low: 1, High: 3}, {Low: 2, High: 3}}}
	return signatureOf(sorts, "zero -A; z -A; s A-A; ss A-A; S A-A; plus DD-D AA-A assoc comm unit=1; plus2 DD-D assoc; Nat -A; N -B; x -C; operator1234 DD-D; two AA-A comm; i -A; an -A")
}

func TestTermsAndTheirTexts(t *testing.T) {
	s := formSignature()
	for _, text := range strings.Split("x:A; x:B; x:C; x:D; x:E; a; b; d; g(a); g(x:B); g(g(g(b))); c(b, a); c(a, a); c(x:C, c(a, y:A)); h(a, b); h(x:A, h(a, a)); "+
		"l(b, a); l(b, a, b); l(x:C, a, m(a, b), w(a, a), a, b, x:C); m(x:C, a, b); m(a, a, a, a, a, a, a); u(b, b); u(u(b, b), g(a)); v(b, g(a)); w(a, a); w(g(a), a, g(a)); "+
		"z(b, b); z(x:A, b, b, g(a)); q(a, b); k(d, a, x:E); k(k(d, a, d), g(g(b)), q(a, a)); "+
		// A variable can have the name of an operator or a sort, and a name can have digits.
		"a:A; A:A; g:C; D:E; z9:B; X:C; If:A; AND:A; iff:A; abcdefghijkl:A; g(a:A); h(a:A, a); c(g:C, g(g:B))", "; ") {
		x := treeOf(s, text)
		checkFormat(t, s, x, text)
		checkRead(t, s, text, x, true)
		checkTextOf(t, readingFor(s), x)
		checkRead(t, s, strings.ReplaceAll(text, " ", ""), x, true)
	}
}

// The arguments may be in any order and any form; what is read is the canonical form.
func TestParseTermBuildsCanonicalForms(t *testing.T) {
	s := formSignature()
	for _, c := range [][2]string{
		{"h(b, a)", "h(a, b)"},
		{"h(a, x:C)", "h(x:C, a)"},
		{"h(h(b, a), a)", "h(a, h(a, b))"},
		{"q(b, a)", "q(a, b)"},
		{"c(b, a)", "c(b, a)"},
		{"l(l(b, a), b)", "l(b, a, b)"},
		{"l(b, l(a, b))", "l(b, a, b)"},
		{"l(l(b, a), l(a, b))", "l(b, a, a, b)"},
		{"l(a, l(a, l(a, l(a, l(a, l(a, a))))))", "l(a, a, a, a, a, a, a)"},
		{"m(b, a)", "m(a, b)"},
		{"m(m(b, g(a)), a, m(b, a))", "m(a, a, b, b, g(a))"},
		{"u(a, a)", "a"},
		{"u(a, b)", "b"},
		{"u(b, a)", "b"},
		{"u(u(a, b), u(b, a))", "u(b, b)"},
		{"v(g(a), b)", "v(b, g(a))"},
		{"v(a, b)", "b"},
		{"w(b, b)", "b"},
		{"w(b, g(a), b, a, b)", "w(g(a), a)"},
		{"w(w(g(a), a), b, x:C)", "w(g(a), a, x:C)"},
		{"z(a, a)", "a"},
		{"z(a, a, a, a, a, a, a, a, a, a)", "a"},
		{"z(g(a), z(b, a), a)", "z(b, g(a))"},
		{"z(z(a, a), z(a, a))", "a"},
		{"g(z(a, h(b, a)))", "g(h(a, b))"},
		{"k(k(d, m(b, a), d), u(a, x:C), q(b, a))", "k(k(d, m(a, b), d), x:C, q(a, b))"},
	} {
		want := treeOf(s, c[1])
		checkRead(t, s, c[0], want, true)
		checkReading(t, readingFor(s), c[0])
		checkFormat(t, s, want, c[1])
		if c[0] != c[1] {
			checkNoText(t, s, treeOf(s, c[0]))
		}
	}
}

func TestLongestNames(t *testing.T) {
	s := namedSignature()
	checkSignature(t, s, true)
	x, zero := variableOf("x", 0), apply(0)
	for _, c := range []struct {
		text string
		want impl.Term
	}{
		{"zero", zero},
		{"z", apply(1)},
		{"Nat", apply(7)},
		{"N", apply(8)},
		{"x", apply(9)},
		{"x:Nat", x},
		{"x:N", variableOf("x", 1)},
		{"x:zero", variableOf("x", 2)},
		{"x:Natural12345", variableOf("x", 3)},
		{"zero:zero", variableOf("zero", 2)},
		{"Nat:Nat", variableOf("Nat", 0)},
		{"x1y2z3:N", variableOf("x1y2z3", 1)},
		{"operator1234:Natural12345", variableOf("operator1234", 3)},
		{"operator1234(x, x:Nat)", apply(10, apply(9), x)},
		{"s(zero)", apply(2, zero)},
		{"ss(s(S(z)))", apply(3, apply(2, apply(4, apply(1))))},
		{"plus(s(z), z)", apply(5, apply(1), apply(2, apply(1)))},
		{"plus2(z, zero)", apply(6, apply(1), zero)},
		{"plus2(plus(N, z, zero), two(i, an))", apply(6, apply(5, apply(1), apply(8)), apply(11, apply(12), apply(13)))},
	} {
		checkRead(t, s, c.text, c.want, true)
		checkReading(t, readingFor(s), c.text)
	}
	for _, text := range strings.Split("zer|zeroo|zeroz|Zero|ZERO|zero1|1zero|na|nat|NN|n|sss(z)|sS(z)|s1(z)|s2(z, z)|plus1(z, z)|plus22(z, z)|PLUS(z, z)|operator123(z, z)|operator12345(z, z)|Operator1234(z, z)|"+
		"x:nat|x:Na|x:Nats|x:NatN|x:NN|x:n|x:Zero|x:z|x:s|x:Natural1234|x:Natural123456|x:1|x:if|x:and|1:Nat|9x:Nat|0:N|1|0|12|operator12345:Nat|abcdefghijklm:N|if|and|if:Nat|and:N|if(z)|and(z, z)|s(if:Nat)|s(and)|two(z, if:N)", "|") {
		checkUnreadable(t, s, text)
		checkReading(t, readingFor(s), text)
		checkUnreadable(t, s, "s("+text+")")
		checkUnreadable(t, s, "plus(zero, "+text+", zero)")
	}
}

// A name before a colon can be any valid name, and nothing else.
func TestNamesOfVariablesInTexts(t *testing.T) {
	s := namedSignature()
	for _, name := range append(shortStrings("aZ09if", 3), "and", "andy", "And", "if1", "iff", "i", "an", "abcdefghijkl", "abcdefghijk1", "abcdefghijklm", "a23456789012", "a234567890123", strings.Repeat("x", 1000)) {
		for k, sort := range s.Sorts.Names {
			checkRead(t, s, name+":"+sort, variableOf(name, k), impl.IsName(name))
			checkRead(t, s, "  s (  "+name+" :"+sort+" ) ", apply(2, variableOf(name, k)), impl.IsName(name))
		}
	}
	// All bytes are tried at each place of a name, which they end or make invalid.
	for n := range 256 {
		b := string([]byte{byte(n)})
		for _, text := range []string{b, b + ":N", b + "x:N", "x" + b + ":N", "x" + b + "y:N", "x:" + b, "x:" + b + "N", "x:N" + b, "x:N" + b + "at", "s" + b + "(z)", "s(z" + b + ")", "s(" + b + "z)", "s(z)" + b, b + "s(z)", "two(z" + b + "z)", "two(z," + b + "z)"} {
			checkReading(t, readingFor(s), text)
		}
	}
}

// gapped writes tokens with the given text in one of the gaps, of which the first and the last one are at the ends.
func gapped(tokens []string, place int, text string) string {
	return strings.Join(tokens[:place], "") + text + strings.Join(tokens[place:], "")
}

func TestSpacesAroundNames(t *testing.T) {
	s := namedSignature()
	f := readingFor(s)
	for _, text := range []string{"z", "zero", "x:Nat", "zero:zero", "s(z)", "s(x1:N)", "two(z, zero)", "operator1234(s(x), yy:Natural12345)", "plus(plus2(Nat, N), s(ss(zero)), v9:N, v9:Nat)"} {
		want, ok := f.parse(text)
		tokens, _ := tokensOf(text)
		if !ok {
			t.Fatal(text)
		}
		for _, spaces := range []string{"", " ", "  ", strings.Repeat(" ", 60)} {
			checkRead(t, s, spaces+strings.Join(tokens, spaces)+spaces, want, true)
			for place := range len(tokens) + 1 {
				checkRead(t, s, gapped(tokens, place, spaces), want, true)
			}
		}
		// Inside of a name there are none.
		for place, token := range tokens {
			for cut := 1; cut < len(token); cut++ {
				parts := slices.Replace(slices.Clone(tokens), place, place+1, token[:cut], token[cut:])
				for _, spaces := range []string{" ", "   "} {
					checkUnreadable(t, s, gapped(parts, place+1, spaces))
				}
			}
		}
		// No other byte counts as a space, not even others that are not seen.
		for n := range 256 {
			b := string([]byte{byte(n)})
			for place := range len(tokens) + 1 {
				for _, between := range []string{b, " " + b, b + " ", " " + b + " "} {
					ok := checkReading(t, f, gapped(tokens, place, between))
					if ok && b != " " && !impl.IsName("x"+b) {
						t.Fatalf("%q is read", gapped(tokens, place, between))
					}
				}
			}
		}
		for _, wide := range []string{"\u00a0", "\u2003", "\u3000", "\ufeff", "\u200b", "\r\n", "\\ ", "&nbsp;", "/**/", "_"} {
			for place := range len(tokens) + 1 {
				checkUnreadable(t, s, gapped(tokens, place, wide))
			}
		}
	}
}

func TestTextsOfNoTerm(t *testing.T) {
	s := formSignature()
	f := readingFor(s)
	for _, text := range strings.Split("| |   |(|)|,|:|()|( )|(,)|a()|a( )|a ()|a(a)|a(|a)|a,|,a|a:|:a|(a)|((a))|(a|a b|a a|a,b|a, b|a;b|a=b|a = b|a.|-a|+|#|\"a\"|a\x00|\x00|a\n|\ta|é|x:é|é:A|"+
		"g|g(|g()|g( )|g(a|g(a))|g(a)b|g(a) b|g(a)(b)|g(a)()|g(a),|g(a):A|g((a))|g((a)|g a|g a)|ga|g(a,)|g(,a)|g(,)|g(a a)|g(a b)|g:(a)|g(:a)|g(a:)|g(g(a)|g(g(a)))|gg(a)|g(a)g(a)|g(a),g(a)|g[a]|g[a)|g(a]|g{a}|g<a>|(g)(a)|(g(a))|"+
		"c(a|c(a,|c(a,b|c(a,b,)|c(,a,b)|c(a,,b)|c(a b)|c(a;b)|c(a.b)|c(a:b)|c(a,b))|c(a),b|c(a)(b)|c((a,b))|c((a),b)|c(a,(b))|c a,b|c,a,b|c(a,b)c|c()a,b()|l(a,b|l(a,b,|l(a,b,)|l(,a,b)|l(a,,b)|l(a,b,,a)|l(a b,a)|z(,)|z(a,)|z()|"+
		"x|x:|:A|:|x:A:|:x:A|x::A|x:A:B|x:A A|x x:A|x:A(a)|x(a):A|x:(A)|(x):A|(x:A)|x:A)|x:A,|x:A,y:A|x:F|x:a|x:AA|x:AB|x A|x.A|x;A|x:-A|x:A-|x:0|x:-1|X|xA|x:@|g(x:)|g(:A)|g(x:A:A)|g(x:A|g x:A|x:g(A)|"+
		"e|q|A|n|G(a)|D|aa|ab|A()|g(A)|g(e)|G(x:A)|e(a)|g(q)|k(d,a)|k(d,a,d,d)|k(d;a;d)", "|") {
		checkUnreadable(t, s, text)
		checkReading(t, f, text)
		for _, around := range []string{"g(%s)", "g( %s )", "c(a, %s)", "c(%s, a)", "l(a, %s, b)", "z(%s, a, a)", "u(a, %s)", "k(d, g(%s), d)", "%s(a)", "%s(a, b)", "%s a", "a %s", "x:%s", "%s:A", "%s)", "(%s", "(%s)"} {
			checkReading(t, f, strings.Replace(around, "%s", text, 1))
		}
	}
}

// Where MakeTerm fails, there is no term.
func TestTextsForWhichMakeTermFails(t *testing.T) {
	s := formSignature()
	f := readingFor(s)
	for _, text := range strings.Split("a(a)|a(x:A)|d(d)|g(a, a)|c(a)|c(a, a, a)|h(a)|h(a, a, a)|l(a)|l(x:C)|l(l(a, a))|m(a)|m(m(a, b))|u(b)|u(a)|u(b, b, b)|u(a, b, a)|v(b)|v(a, a, a)|w(b)|w(a)|z(a)|z(b)|z(z(b, b))|k(d)|"+
		"g(d)|g(x:D)|g(q(a, a))|c(a, d)|c(d, a)|h(d, a)|h(a, x:E)|l(a, d)|l(d, d)|l(a, a, x:D)|m(x:E, a)|u(d, a)|u(a, d)|v(a, d)|w(b, d)|w(a, x:D)|z(a, d)|z(x:E, a, a)|q(d, a)|k(a, a, d)|k(d, d, d)|k(d, a, a)|"+
		"l(a, b, a, b, a, b, a, b)|m(a, a, a, a, a, a, a, a)|l(l(a, b, a, b), l(a, b, a, b))|m(a, m(a, a, a, a, a, a, a))|w(a, a, a, a, a, a, a, a)|z(b, b, b, b, b, b, b, b)|z(z(b, b, b), a, z(b, b, b), z(b, b))", "|") {
		checkUnreadable(t, s, text)
		for _, around := range []string{"g(%s)", "c(a, %s)", "c(%s, a)", "h(g(%s), a)", "z(a, g(%s))", "u(a, %s)", "k(d, h(%s, a), d)"} {
			checkUnreadable(t, s, strings.Replace(around, "%s", text, 1))
		}
		checkReading(t, f, text)
	}
	// The limits hold for the canonical form of each part.
	for size := 3; size <= 70; size++ {
		x := treeOfSize(size)
		checkRead(t, s, f.format(x), x, size <= impl.MaxTerm)
		checkRead(t, s, f.format(apply(3, x)), apply(3, x), size+1 <= impl.MaxTerm)
		checkRead(t, s, f.format(apply(8, apply(0), x)), x, size <= impl.MaxTerm)
		checkRead(t, s, f.format(apply(11, apply(0), apply(0), x)), x, size <= impl.MaxTerm)
		checkTextOf(t, f, x)
		checkTextOf(t, f, apply(3, x))
	}
	for _, op := range []int{6, 7, 10, 11} {
		for count := range 12 {
			x := apply(op, leavesOf(count)...)
			form, ok := f.canonicalTerm(x)
			checkRead(t, s, f.format(x), form, ok)
			if ok != (count >= 2 && count <= impl.MaxWidth) {
				t.Error(count, ok)
			}
			checkTextOf(t, f, x)
			checkTextOf(t, f, form)
		}
	}
}

// spacedTo adds spaces in one of the gaps of a text so that it has a number of bytes.
func spacedTo(text string, place, size int) string {
	tokens, _ := tokensOf(text)
	plain := strings.Join(tokens, "")
	return gapped(tokens, place, strings.Repeat(" ", size-len(plain)))
}

func TestLengthOfTexts(t *testing.T) {
	s := formSignature()
	a, b := apply(0), apply(1)
	for _, size := range []int{30, 1000, 1998, 1999, 2000, 2001, 2002, 2003, 3000, 4000, 100000} {
		for place := range 7 {
			checkRead(t, s, spacedTo("c(b,g(a))", min(place, 6), size), apply(4, b, apply(3, a)), size <= 2000)
		}
		for place := range 4 {
			checkRead(t, s, spacedTo("x:A", place, size), variableOf("x", 0), size <= 2000)
		}
		checkUnreadable(t, s, strings.Repeat(" ", size))
		for _, part := range []string{"a", "1", "(", ")", ",", ":", "a,", "a ", "g(", "c(a,", "z(", "x:", ":A", "x:A", "\x00", "\n", "é", "a(", ")a"} {
			text := strings.Repeat(part, size/len(part))
			checkUnreadable(t, s, text)
			checkUnreadable(t, s, text[:len(text)-1])
			checkUnreadable(t, s, "g("+text[min(3, len(text)):]+")")
		}
	}
	// Without any space: the Units make nothing of the term.
	for count := 1; count <= 1100; count++ {
		for _, last := range []string{"a", "b", "g(b)", "x:B"} {
			text := "z(" + strings.Repeat("a,", count) + last + ")"
			checkRead(t, s, text, treeOf(s, last), len(text) <= 2000)
			text = "z(" + last + strings.Repeat(",a", count) + ")"
			checkRead(t, s, text, treeOf(s, last), len(text) <= 2000)
		}
	}
}

// The text of a term is never too long to be read.
func TestLongestTextsOfTerms(t *testing.T) {
	s := formSignature()
	for i := range s.Ops {
		s.Ops[i].Name = fmt.Sprintf("operator%04d", i)
	}
	for i := range s.Sorts.Names {
		s.Sorts.Names[i] = fmt.Sprintf("sort%08d", i)
	}
	f := readingFor(s)
	longest := 0
	for size := 1; size <= 61; size++ {
		wide := apply(6, slices.Repeat([]impl.Term{variableOf("variable1234", 2)}, 7)...)
		for _, x := range []impl.Term{treeOfSize(size), chainOf(3, size-1, variableOf("variable1234", 2)), apply(7, slices.Repeat([]impl.Term{wide}, size/9)...), apply(10, slices.Repeat([]impl.Term{wide}, size/8)...)} {
			checkTextOf(t, f, x)
			longest = max(longest, len(impl.FormatTerm(s, x)))
		}
	}
	if longest < 1400 || longest > 2000 {
		t.Error(longest)
	}
}

// Applications and variables are counted as they are written, also where the canonical form is less deep.
func TestDepthOfTexts(t *testing.T) {
	s := formSignature()
	f := readingFor(s)
	a, b, x := apply(0), apply(1), variableOf("x", 1)
	for depth := 3; depth <= 40; depth++ {
		inside := depth <= impl.MaxDepth
		for _, leaf := range []impl.Term{b, x} {
			chain := chainOf(3, depth-1, leaf)
			checkTextOf(t, f, chain)
			checkRead(t, s, f.format(chain), chain, inside)
			for _, around := range []impl.Term{apply(4, chainOf(3, depth-2, leaf), a), apply(4, a, chainOf(3, depth-2, leaf)), apply(6, a, a, chainOf(3, depth-2, leaf))} {
				checkTextOf(t, f, around)
				checkRead(t, s, f.format(around), around, inside)
			}
			for _, op := range []int{8, 9, 11} {
				units := nested(op, []impl.Term{a}, leaf, depth-1)
				if form, ok := impl.CanonicalTerm(s, units); !ok || depthByText(form) != 1 {
					t.Fatal(form, ok)
				}
				checkRead(t, s, f.format(units), leaf, inside)
				checkReading(t, f, f.format(units))
				checkRead(t, s, f.format(apply(op, a, apply(op, a, chainOf(3, depth-3, leaf)))), chainOf(3, depth-3, leaf), inside)
			}
			for _, op := range []int{6, 7, 10, 11} {
				flat := nested(op, []impl.Term{apply(3, a), x}, leaf, depth-1)
				checkReading(t, f, f.format(flat))
			}
		}
		// Here the Units are the deepest parts.
		units := nested(11, []impl.Term{a}, a, depth-1)
		checkRead(t, s, f.format(units), a, inside)
		checkRead(t, s, f.format(apply(11, b, units)), b, depth+1 <= impl.MaxDepth)
		checkRead(t, s, f.format(apply(11, units, units)), a, depth+1 <= impl.MaxDepth)
	}
	// Width is no depth.
	wide := "z(" + strings.Repeat("z(a, a), ", 200) + "b)"
	checkRead(t, s, wide, b, true)
}

// Texts that open many parentheses need no deep calls, from whose end no function could recover.
func TestDeepTextsAndTrees(t *testing.T) {
	defer debug.SetMaxStack(debug.SetMaxStack(1 << 22))
	s := formSignature()
	for _, part := range []string{"g(", "z(a,", "z(", "(", "c(a, c(", "g( "} {
		for _, size := range []int{2000, 2001, 3000000} {
			checkUnreadable(t, s, strings.Repeat(part, size/len(part)))
			half := size / 2 / len(part)
			checkUnreadable(t, s, strings.Repeat(part, half)+strings.Repeat(")", half))
		}
	}
	for _, x := range endlessTrees() {
		if impl.FormatTerm(s, x) != "" || impl.FormatTerm(s, apply(3, x)) != "" {
			t.Error("a text of a tree without an end, with the operator", x.Op)
		}
	}
}

func TestFormatTermOfNoTerms(t *testing.T) {
	s := formSignature()
	for _, x := range append(noTerms(), impl.Term{Op: -1}) {
		checkNoText(t, s, x)
		checkNoText(t, s, apply(3, x))
		checkNoText(t, s, apply(6, x, apply(0)))
	}
	checkFormat(t, s, impl.Term{}, "a")
}

func TestTextsOfInvalidSignatures(t *testing.T) {
	texts := strings.Split("x:A; x:D; a; d; g(a); c(a, b); h(a, b); l(a, b, a); m(a, b); u(b, b); v(b, b); w(a, a); z(b, b, b); z(a, b); q(a, b); k(d, a, d); ; a(", "; ")
	for _, s := range brokenSignatures() {
		checkSignature(t, s, false)
		for _, text := range texts {
			checkUnreadable(t, s, text)
			if x, ok := readingFor(formSignature()).parse(text); ok {
				checkNoText(t, s, x)
			}
		}
	}
	s := signatureOf(sortsOf(8, ""), "a -A")
	s.Sorts.Names = append(s.Sorts.Names, "I")
	for _, text := range []string{"a", "x:A", "x:I"} {
		checkUnreadable(t, s, text)
	}
	checkNoText(t, s, apply(0))
	checkNoText(t, s, variableOf("x", 8))
	s = impl.Signature{Sorts: sortsOf(1, ""), Ops: make([]impl.Op, 1000000)}
	s.Ops[999999].Name = "a"
	for _, text := range []string{"a", "x:A", ""} {
		checkUnreadable(t, s, text)
	}
	checkNoText(t, s, variableOf("x", 0))
	// Names that are not valid are not read.
	for _, name := range []string{"", " ", "if", "1", "a b", "a:A", "(", "a)", "abcdefghijklm"} {
		s := signatureOf(sortsOf(1, ""), "a -A")
		s.Ops[0].Name = name
		checkUnreadable(t, s, name)
		checkUnreadable(t, s, "x:A")
		checkNoText(t, s, apply(0))
		s = signatureOf(sortsOf(1, ""), "a -A")
		s.Sorts.Names[0] = name
		checkUnreadable(t, s, "a")
		checkUnreadable(t, s, "x:"+name)
		checkNoText(t, s, apply(0))
		checkNoText(t, s, variableOf("x", 0))
	}
}

func TestTextsWithEmptySlices(t *testing.T) {
	for _, subs := range [][]impl.Sub{nil, {}} {
		for _, args := range [][]impl.Term{nil, {}, make([]impl.Term, 3)[:0]} {
			s := impl.Signature{Sorts: impl.Sorts{Names: []string{"A", "B"}, Subs: subs}, Ops: []impl.Op{{Name: "a", Decls: []impl.Decl{{Args: []int{}}, {Args: nil}}}, {Name: "f", Decls: []impl.Decl{{Args: []int{0}, Result: 1}}}}}
			checkFormat(t, s, impl.Term{Op: 0, Args: args}, "a")
			checkFormat(t, s, impl.Term{Op: -1, Name: "x", Sort: 1, Args: args}, "x:B")
			checkFormat(t, s, apply(1, impl.Term{Op: 0, Args: args}), "f(a)")
			checkNoText(t, s, impl.Term{Op: 1, Args: args})
			checkRead(t, s, "f(a)", apply(1, apply(0)), true)
			for _, ops := range [][]impl.Op{nil, {}} {
				s.Ops = ops
				checkFormat(t, s, impl.Term{Op: -1, Name: "x", Sort: 0, Args: args}, "x:A")
				checkNoText(t, s, impl.Term{Op: 0, Args: args})
				checkRead(t, s, "x:B", variableOf("x", 1), true)
				checkUnreadable(t, s, "a")
			}
		}
	}
	for _, text := range []string{"", "x:A", "a"} {
		checkUnreadable(t, impl.Signature{}, text)
	}
	checkNoText(t, impl.Signature{}, impl.Term{})
	checkNoText(t, impl.Signature{}, variableOf("x", 0))
}

// All sequences of a few tokens, with and without a space, are read as the chapter says.
func TestEveryShortText(t *testing.T) {
	f := readingFor(signatureOf(sortsOf(1, ""), "a -A; f A-A; m AA-A assoc comm unit=1"))
	count := map[bool]int{}
	for _, c := range []struct {
		bytes string
		most  int
	}{{"afm(),:A ", 4}, {"afm(),:A", 5}, {"am(),", 7}, {"af()", 7}, {"A:, ", 7}} {
		for _, text := range shortStrings(c.bytes, c.most) {
			count[checkReading(t, f, text)]++
		}
		for _, text := range shortStrings(c.bytes, c.most-1) {
			count[checkReading(t, f, "m(f(a"+text+")")]++
		}
	}
	if count[true] < 200 {
		t.Error("too few terms:", count)
	}
}

// renamed gives names to the sorts and operators of a signature, some of which begin with others or are those of other things.
func renamed(source *rand.Rand, s impl.Signature) impl.Signature {
	names := strings.Split("a b x y aa ab aB Ab A B X Nat Nat1 Nat12 Nats zero Zero ifa anda i an a1 a10 a100 a1b2c3d4e5f6 operator1234 operator1235 z9", " ")
	s.Sorts.Names = slices.Clone(s.Sorts.Names)
	for i, place := range source.Perm(len(names))[:len(s.Sorts.Names)] {
		s.Sorts.Names[i] = names[place]
	}
	s.Ops = slices.Clone(s.Ops)
	for i, place := range source.Perm(len(names))[:len(s.Ops)] {
		s.Ops[i].Name = names[place]
	}
	return s
}

// renamedVariables gives a tree with other names of variables.
func renamedVariables(source *rand.Rand, t impl.Term) impl.Term {
	if t.Op == -1 {
		names := strings.Split("x y x1 x12 a A b Nat if0 iff and1 abcdefghijkl a1b2c3d4e5f6", " ")
		t.Name = names[source.Intn(len(names))]
	}
	args := []impl.Term{}
	for _, arg := range t.Args {
		args = append(args, renamedVariables(source, arg))
	}
	t.Args = args
	return t
}

// spaced writes the tokens of a text with random spaces between them.
func spaced(source *rand.Rand, text string) string {
	tokens, _ := tokensOf(text)
	result := ""
	for _, token := range tokens {
		result += strings.Repeat(" ", max(0, source.Intn(6)-3)) + token
	}
	return result + strings.Repeat(" ", max(0, source.Intn(6)-3))
}

// Terms are read from their text, and any tree from its text as its canonical form.
func TestTermsAreReadFromTheirText(t *testing.T) {
	source := rand.New(rand.NewSource(40))
	count := map[bool]int{}
	for range 8000 {
		g := randomForms(source)
		f := readingFor(renamed(source, g.s))
		x := renamedVariables(source, treeOfKind(source, g, g.kinds[source.Intn(len(g.kinds))], 2+source.Intn(5)))
		form, ok := f.canonicalTerm(x)
		checkRead(t, f.s, f.format(x), form, ok)
		checkRead(t, f.s, spaced(source, f.format(x)), form, ok)
		count[ok]++
		checkTextOf(t, f, x)
		if !ok {
			continue
		}
		checkTextOf(t, f, form)
		checkRead(t, f.s, spaced(source, impl.FormatTerm(f.s, form)), form, true)
		checkRead(t, f.s, f.format(scrambled(source, f.formsByText, form)), form, true)
	}
	if count[true] < 5000 || count[false] < 300 {
		t.Error("too few of one kind:", count)
	}
}

// All terms of few nodes have different texts, which are read again.
func TestTextsOfAllSmallTerms(t *testing.T) {
	for choice := range 12 {
		s := oneKind(choice, 11-choice)
		f := readingFor(s)
		seen := map[string]string{}
		for _, x := range treesUpTo(s, 5) {
			checkTextOf(t, f, x)
			form, ok := f.canonicalTerm(x)
			checkRead(t, s, f.format(x), form, ok)
			if text := impl.FormatTerm(s, form); ok {
				if key, found := seen[text]; found && key != orderKey(form) {
					t.Fatalf("two terms have the text %s in %+v", text, s)
				}
				seen[text] = orderKey(form)
			}
		}
		if len(seen) < 150 {
			t.Error("only", len(seen))
		}
	}
}

// changedText gives a text with one byte more, less or another one, or two parts exchanged.
func changedText(source *rand.Rand, text string) string {
	const bytes = "abcdgklmxyABCD019:::(((())),,,    \t\n;.-_\x00\xff"
	b := string(bytes[source.Intn(len(bytes))])
	place := source.Intn(len(text) + 1)
	end := min(len(text), place+1+source.Intn(3))
	switch source.Intn(5) {
	case 0:
		return text[:place] + b + text[place:]
	case 1:
		return text[:place] + text[end:]
	case 2:
		return text[:place] + b + text[end:]
	case 3:
		return text[:place] + text[place:end] + text[place:]
	}
	last := min(len(text), end+1+source.Intn(4))
	return text[:place] + text[end:last] + text[place:end] + text[last:]
}

// All bytes are tried in place of each byte of a text, which is left out as well.
func TestEveryByteInTexts(t *testing.T) {
	f := readingFor(namedSignature())
	for _, text := range []string{"z", "x:N", "s(zero)", "two( z,x1:Nat )", "plus(ss(s(z)), plus2(N, i), v:zero)"} {
		if !checkReading(t, f, text) {
			t.Fatal(text)
		}
		for place := range len(text) {
			checkReading(t, f, text[:place])
			checkReading(t, f, text[place:])
			checkReading(t, f, text[:place]+text[place+1:])
			for n := range 256 {
				checkReading(t, f, text[:place]+string([]byte{byte(n)})+text[place+1:])
			}
		}
	}
}

// Changed texts of terms are read as the chapter says, or not at all.
func TestChangedTexts(t *testing.T) {
	source := rand.New(rand.NewSource(41))
	count := map[bool]int{}
	for range 5000 {
		g := randomForms(source)
		f := readingFor(g.s)
		text := f.format(treeOfKind(source, g, g.kinds[source.Intn(len(g.kinds))], 2+source.Intn(3)))
		for range 5 {
			text = changedText(source, text)
			count[checkReading(t, f, text)]++
		}
	}
	if count[true] < 1500 || count[false] < 10000 {
		t.Error("too few of one kind:", count)
	}
}

// Random sequences of names and signs, of which few are a term.
func TestRandomTexts(t *testing.T) {
	source := rand.New(rand.NewSource(42))
	f := readingFor(namedSignature())
	parts := strings.Split("zero|z|s(|ss(|two(|plus(|plus2(|x:Nat|y:N|x:zero|)|)|)|)|,|,|,|, |(|:| |:N|zero|N|if|1|q", "|")
	found := 0
	for range 60000 {
		text := ""
		for range 1 + source.Intn(9) {
			text += parts[source.Intn(len(parts))]
		}
		text += strings.Repeat(")", max(0, strings.Count(text, "(")-strings.Count(text, ")")))
		if checkReading(t, f, text) {
			found++
		}
	}
	if found < 1000 {
		t.Error("only", found)
	}
}

// Nothing of what the functions get is changed, and what is read is new.
func TestTextsLeaveTheirArguments(t *testing.T) {
	source := rand.New(rand.NewSource(43))
	for range 2000 {
		g := randomForms(source)
		f := readingFor(g.s)
		x := treeOfKind(source, g, g.kinds[source.Intn(len(g.kinds))], 1+source.Intn(4))
		form, ok := f.canonicalTerm(x)
		list := []impl.Term{roomyCopy(x), roomyCopy(form)}
		want := wholeOf(list)
		seen := map[*impl.Term]bool{}
		nodesIn(list, seen)
		results := []impl.Term{}
		for _, y := range list {
			checkTextOf(t, f, y)
		}
		for _, text := range []string{f.format(x), f.format(x), f.format(form), f.format(form)} {
			result, _ := impl.ParseTerm(f.s, text)
			results = append(results, result)
		}
		if !nodesIn(results, seen) {
			t.Fatalf("what is read for %v shares memory", x)
		}
		spoilTerms(results)
		checkRead(t, f.s, f.format(x), form, ok)
		if got := wholeOf(list); !reflect.DeepEqual(got, want) {
			t.Fatalf("%v, before %v", got, want)
		}
	}
	s := fullSignature()
	for range 2 {
		for _, text := range []string{"e", "x:A", "m(x:A, e)", "m(y:B, x:C, e, m(x:A, x:A))", "m", "q", "x:spare", "spare", "m(e"} {
			checkReading(t, readingFor(s), text)
			if !reflect.DeepEqual(withCapacity(s), withCapacity(fullSignature())) {
				t.Fatalf("%+v", withCapacity(s))
			}
		}
	}
}
