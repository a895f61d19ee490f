package tests

import (
	"fmt"
	"slices"
	"strings"
	"testing"

	"loop.example/g01133/impl"
)

func TestPromise10Valid(t *testing.T) {
	for _, m := range someCoders() {
		if !impl.ValidCoder(m) {
			t.Errorf("%v is not valid", m)
		}
	}
	for k, m := range invalidCoders() {
		if impl.ValidCoder(m) {
			t.Errorf("the coder %d, of %d states, is valid", k, m.States)
		}
	}
	for length := range 9 {
		for l := range 4 {
			words := []string{"", "", "", ""}
			words[l] = strings.Repeat("b", length)
			if impl.ValidCoder(oneState(words...)) != (length <= 6) {
				t.Errorf("words of %d letters are not told from shorter ones", length)
			}
		}
	}
}

func TestPromise10Words(t *testing.T) {
	words := append(wordsUpTo("abcd", 3), longWords()...)
	for _, m := range append(someCoders(), oneState("a", "ab", "abc", "abcd")) {
		for _, w := range words {
			want, _ := codeBy(m, m.Start, w)
			code, err := impl.CodeWord(m, w)
			if len(want) > impl.MaxPlain {
				failsWith(t, fmt.Sprintf("CodeWord of %.40q", w), list(code, err), impl.ErrLimit)
			} else if code != want || err != impl.OK {
				t.Errorf("CodeWord of %.40q: got %.80q and the code %d, want %.80q", w, code, err, want)
			}
		}
	}
	for length := 330; length <= 340; length++ {
		// The last letter has a word of 2 letters, each other one a word of 6.
		w := strings.Repeat("a", length-1) + "b"
		code, err := impl.CodeWord(oneState("abcdab", "cd", "", ""), w)
		if size := length*6 - 4; size <= 2000 {
			is(t, "CodeWord up to the limit", fmt.Sprint(size, " 0"), len(code), err)
		} else {
			failsWith(t, "CodeWord above the limit", list(code, err), impl.ErrLimit)
		}
	}
}

// codesLikePlain holds the code of a grammar against that of its short word, and its rules against those counted out.
func codesLikePlain(t *testing.T, m impl.Coder, g impl.Grammar) {
	t.Helper()
	w := wordOf(g)
	name := fmt.Sprintf("%v and %.60q, of %.80q", m, w, textOf(g))
	want, _ := codeBy(m, m.Start, w)
	length, code := impl.CodedLength(m, g)
	counts(t, "CodedLength of "+name, length, code, int64(len(want)))
	if plain, code := impl.CodeWord(m, w); code == impl.OK && plain != want {
		t.Errorf("CodeWord of %s: got %.80q, want %.80q", name, plain, want)
	}
	made, code := impl.CodeGrammar(m, g)
	before := codeRulesBy(m, g)
	if len(before.Rules) > impl.MaxRules {
		failsWith(t, "CodeGrammar of "+name, list(made, code), impl.ErrLimit)
		return
	}
	if code != impl.OK || wordOf(made) != want {
		t.Errorf("CodeGrammar of %s: got %.80q and the code %d, want %.80q", name, wordOf(made), code, want)
		return
	}
	if len(want) <= 300 {
		sameGrammar(t, "CodeGrammar of "+name, made, code, trimmedBy(before))
		return
	}
	trimmed, _ := impl.TrimGrammar(before)
	sameGrammar(t, "CodeGrammar of "+name, made, code, trimmed)
}

func TestPromise10SmallGrammars(t *testing.T) {
	coders := someCoders()
	for k, g := range someGrammars() {
		for l := range 3 {
			codesLikePlain(t, coders[(k*29+l*17)%len(coders)], g)
		}
	}
	for _, m := range coders {
		for _, g := range []impl.Grammar{{}, gram(example), gram("c\n"), gram("a\nb\nc\nd\n"), mixedGrammar(40, 200, 3), mixedGrammar(30, 50, 12), plainBy("dcbacd"), plainBy(strings.Repeat("abc", 20))} {
			codesLikePlain(t, m, g)
		}
	}
	for _, g := range []impl.Grammar{chain(400), mixedGrammar(400, 1900, 36), mixedGrammar(120, 1900, 21), mixedGrammar(399, 1500, 35)} {
		for _, m := range coders {
			codesLikePlain(t, m, g)
		}
	}
}

// TestPromise10Example holds some grammars of codes against what they are by hand.
func TestPromise10Example(t *testing.T) {
	g := gram(example)
	for _, c := range []struct {
		name, want string
		m          impl.Coder
	}{
		{"the same word", example, oneState("a", "b", "c", "d")},
		{"the other letters", "d\nc\n0 1\n2 0\n3 2\n", oneState("d", "c", "b", "a")},
		{"one letter alone", "d\n0 0\n", oneState("", "d", "", "")},
		{"nothing", "", oneState("", "", "a", "b")},
		{"words of two letters", "a\nb\n0 1\n1 0\n2 3\n4 2\n5 4\n", oneState("ab", "ba", "c", "d")},
		{"every second letter", "a\nb\n0 0\n2 1\n", twoStates([]string{"a", "b", "c", "d"}, []string{"", "", "", ""})},
		{"every other second letter", "a\nb\n1 0\n", twoStates([]string{"", "", "", ""}, []string{"a", "b", "c", "d"})},
		{"the first letter", "a\n", impl.Coder{States: 2, Next: [][]int64{{1, 1, 1, 1}, {1, 1, 1, 1}}, Out: [][]string{{"a", "b", "c", "d"}, {"", "", "", ""}}}},
	} {
		made, code := impl.CodeGrammar(c.m, g)
		sameGrammar(t, c.name, made, code, gram(c.want))
	}
}

// TestPromise10Empty checks that there is no code of the grammar without rules, and none of empty words.
func TestPromise10Empty(t *testing.T) {
	for _, m := range someCoders() {
		is(t, "the code of nothing", "{[]} 0", list(impl.CodeGrammar(m, impl.Grammar{}))...)
		is(t, "the length of nothing", "0 0", list(impl.CodedLength(m, impl.Grammar{}))...)
		is(t, "the word of nothing", " 0", list(impl.CodeWord(m, ""))...)
	}
	silent := impl.Coder{States: 24, Start: 7, Next: ring(24).Next, Out: slices.Repeat([][]string{{"", "", "", ""}}, 24)}
	for _, g := range manyGrammars() {
		is(t, "no letter of a code", "{[]} 0", list(impl.CodeGrammar(silent, g))...)
		is(t, "no length of a code", "0 0", list(impl.CodedLength(silent, g))...)
	}
}

// TestPromise10OnlyMet checks that rules count in those states alone in which they are met.
func TestPromise10OnlyMet(t *testing.T) {
	// From the state 0 on, "a" is met in 0 and 1, and "b" in 0 alone, though it could be read in 24 states.
	m := impl.Coder{States: 24, Next: ring(24).Next, Out: slices.Repeat([][]string{{"abcdab", "dcbadc", "aaaaaa", "dddddd"}}, 24)}
	m.Next[0], m.Next[1] = []int64{1, 0, 0, 0}, []int64{0, 1, 1, 1}
	g := gram("a\nb\n0 0\n1 2\n")
	made, code := impl.CodeGrammar(m, g)
	sameGrammar(t, "a word read in two states", made, code, trimmedBy(codeRulesBy(m, g)))
	is(t, "its rules before trimming", "29", len(codeRulesBy(m, g).Rules))
	// Rules that are not met need nothing: neither the letters nor the pairs behind what is read.
	for len(g.Rules) < impl.MaxRules-2 {
		g.Rules = append(g.Rules, pair(last(g), 0))
	}
	g.Rules = append(g.Rules, letter("c"), pair(3, last(g)+1))
	made, code = impl.CodeGrammar(m, g)
	short := gram("a\nb\n0 0\n1 2\nc\n3 4\n")
	sameGrammar(t, "a word with many unused rules", made, code, trimmedBy(codeRulesBy(m, short)))
	length, code := impl.CodedLength(m, g)
	counts(t, "its length", length, code, 24)
}

// TestPromise10Rules checks codes with just MaxRules rules before trimming, and with more.
func TestPromise10Rules(t *testing.T) {
	same := []string{"a", "b", "c", "d"}
	one, two, long := oneState(same...), twoStates(same, same), oneState("abcdab", "b", "c", "d")
	for _, c := range []struct {
		name   string
		m      impl.Coder
		g      impl.Grammar
		before int
	}{
		{"one state and 399 rules", one, chain(399), 399},
		{"one state and 400 rules", one, chain(400), 400},
		{"two states and 398 rules", two, chain(398), 399},
		{"two states and 399 rules", two, chain(399), 400},
		{"two states and 400 rules", two, chain(400), 401},
		{"a word of six letters and 391 rules", long, chain(391), 399},
		{"a word of six letters and 392 rules", long, chain(392), 400},
		{"a word of six letters and 393 rules", long, chain(393), 401},
		{"a word of six letters and 400 rules", long, chain(400), 408},
	} {
		made, code := impl.CodeGrammar(c.m, c.g)
		is(t, c.name, fmt.Sprint(c.before), len(codeRulesBy(c.m, c.g).Rules))
		if c.before > impl.MaxRules {
			failsWith(t, c.name, list(made, code), impl.ErrLimit)
		} else if code != impl.OK || wordOf(made) != wordOf(codeRulesBy(c.m, c.g)) {
			t.Errorf("%s: got %.80q and the code %d", c.name, textOf(made), code)
		}
		length, code := impl.CodedLength(c.m, c.g)
		counts(t, c.name, length, code, int64(len(wordOf(codeRulesBy(c.m, c.g)))))
	}
}

// codesLikePieces holds the code of a grammar of a long word against that of its pieces.
func codesLikePieces(t *testing.T, m impl.Coder, g impl.Grammar, w pieces) {
	t.Helper()
	name := fmt.Sprintf("%v and %.90s", m, w)
	want := codeOfPieces(m, w)
	length, code := impl.CodedLength(m, g)
	if want.length() > impl.MaxLength {
		counts(t, "CodedLength of "+name, length, code, -impl.ErrLimit)
		made, code := impl.CodeGrammar(m, g)
		failsWith(t, "CodeGrammar of "+name, list(made, code), impl.ErrLimit)
		return
	}
	counts(t, "CodedLength of "+name, length, code, want.length())
	made, code := impl.CodeGrammar(m, g)
	if code == impl.ErrLimit {
		// There may be too many rules, but not for few states.
		if m.States < 4 {
			t.Errorf("CodeGrammar of %s: got the code %d", name, code)
		}
		return
	}
	yes, same := impl.EqualWords(made, grammarOf(t, want))
	if !yes || code != impl.OK || same != impl.OK {
		t.Errorf("CodeGrammar of %s: got another word than %.90s, and the code %d", name, want, code)
	}
}

func TestPromise10LongWords(t *testing.T) {
	coders := append(someCoders()[:40], oneState("ab", "", "a", "a"), oneState("", "bcd", "", ""), oneState("aa", "", "", ""), oneState("", "aa", "", ""))
	for k, w := range hugeWords() {
		// Whole words leave no room for codes that are longer.
		shorter := pieces{}
		for _, p := range w {
			shorter = append(shorter, piece{p.word, max(1, p.times/7)})
		}
		for _, w := range []pieces{w, shorter} {
			ways := grammarsOf(t, w)
			for l, m := range coders {
				codesLikePieces(t, m, ways[(k+l)%len(ways)], w)
			}
		}
	}
}

// TestPromise10Lengths checks codes of just MaxLength letters, and of more.
func TestPromise10Lengths(t *testing.T) {
	const n = impl.MaxLength
	full := fullGrammar()
	half, _ := impl.PartGrammar(full, 0, n/2)
	second := impl.Coder{States: 2, Next: [][]int64{{1, 1, 1, 1}, {1, 1, 1, 1}}, Out: [][]string{{"ab", "ab", "ab", "ab"}, {"a", "b", "c", "d"}}}
	for _, c := range []struct {
		name string
		m    impl.Coder
		g    impl.Grammar
		want int64
	}{
		{"as many letters", oneState("a", "b", "c", "d"), full, n},
		{"twice as many letters", oneState("ab", "ba", "c", "d"), half, n},
		{"none, and twice as many", oneState("", "ba", "c", "d"), full, n},
		{"one letter more", second, full, -impl.ErrLimit},
		{"three halves", oneState("aa", "b", "", ""), full, -impl.ErrLimit},
		{"six times as many", oneState("abcdab", "abcdab", "abcdab", "abcdab"), full, -impl.ErrLimit},
	} {
		length, code := impl.CodedLength(c.m, c.g)
		counts(t, "CodedLength of "+c.name, length, code, c.want)
		made, code := impl.CodeGrammar(c.m, c.g)
		if c.want < 0 {
			failsWith(t, "CodeGrammar of "+c.name, list(made, code), impl.ErrLimit)
			continue
		}
		size, _ := impl.LengthOf(made)
		is(t, "CodeGrammar of "+c.name, fmt.Sprint(c.want, " 0"), size, code)
	}
	// The first letter is not written, so there is room for another one that is written twice.
	second.Next[0], second.Out[0] = []int64{1, 1, 1, 1}, []string{"", "", "", ""}
	length, code := impl.CodedLength(second, full)
	counts(t, "one letter less", length, code, n-1)
	// A length without a code: too many rules.
	many := grown(1)
	size, _ := impl.LengthOf(many)
	all := impl.Coder{States: 24, Next: ring(24).Next, Out: slices.Repeat([][]string{{"a", "b", "c", "d"}}, 24)}
	length, code = impl.CodedLength(all, many)
	counts(t, "a length without a code", length, code, size)
	made, code := impl.CodeGrammar(all, many)
	failsWith(t, "a code with too many rules", list(made, code), impl.ErrLimit)
}
