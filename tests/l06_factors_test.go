package tests

import (
	"fmt"
	"slices"
	"strings"
	"testing"

	"loop.example/g01133/impl"
)

// phrasesAreRight holds the phrases of a word against what they are called.
func phrasesAreRight(t *testing.T, w string) {
	t.Helper()
	phrases, code := impl.PhrasesOf(w)
	same(t, "PhrasesOf "+w, phrases, code, phrasesBy(w))
	is(t, "the phrases together", w, strings.Join(phrases, ""))
	known := map[string]bool{"": true}
	for k, p := range phrases {
		// Each one is new, but for the last one, and is an earlier one with one letter more.
		if p == "" || known[p] && k < len(phrases)-1 || !known[p[:len(p)-1]] {
			t.Errorf("the phrase %d of %.80s is %q", k, w, p)
		}
		known[p] = true
	}
}

func TestPromise15Phrases(t *testing.T) {
	for w, want := range map[string]string{
		"": "[]", "a": "[a]", "aa": "[a a]", "aaa": "[a aa]", "aaaa": "[a aa a]", "aaaaa": "[a aa aa]", "aaaaaa": "[a aa aaa]", "abab": "[a b ab]", "ababab": "[a b ab ab]", "abababa": "[a b ab aba]",
		"abaab": "[a b aa b]", "dcba": "[d c b a]", "abcabcabc": "[a b c ab ca bc]", "abcabcabca": "[a b c ab ca bc a]", "bbabba": "[b ba bb a]",
	} {
		phrases, code := impl.PhrasesOf(w)
		is(t, "PhrasesOf "+w, want+" 0", phrases, code)
	}
	for _, w := range slices.Concat(wordsUpTo("ab", 11), wordsUpTo("abcd", 6), makerWords(), longWords()) {
		phrasesAreRight(t, w)
	}
}

// factorsAreRight holds the factors of a word against what they are called: there is no longer
// one at their place, and none of the same length that begins before.
func factorsAreRight(t *testing.T, w string) {
	t.Helper()
	found, code := impl.FactorsOf(w)
	if code == impl.ErrLimit {
		failsWith(t, "FactorsOf", list(found, code), impl.ErrLimit)
		return
	}
	place, most := 0, 0
	for k, f := range found {
		n, from := int(f.Length), int(f.From)
		if f.Letter != "" {
			n = 1
			if f != lone(w[place:place+1]) || strings.Contains(w[:place], f.Letter) {
				t.Errorf("the factor %d of %.80s is %v", k, w, f)
			}
		} else if strings.Index(w[:place], w[place:place+n]) != from || place+n < len(w) && strings.Contains(w[:place], w[place:place+n+1]) {
			t.Errorf("the factor %d of %.80s is %v", k, w, f)
		}
		place += n
		most++
	}
	if code != impl.OK || place != len(w) || most > impl.MaxFactors || factoredWord(found) != w {
		t.Errorf("the factors of %.80s end at %d, with the code %d", w, place, code)
	}
	comesBack(t, found, w)
}

// comesBack checks that a valid list of factors has a short word, and is read and written.
func comesBack(t *testing.T, list []impl.Factor, w string) {
	t.Helper()
	text := factorLines(list)
	is(t, "FactorsText", text, impl.FactorsText(list))
	is(t, "ValidFactors of "+text, "true", impl.ValidFactors(list))
	read, code := impl.ReadFactors(text)
	same(t, "ReadFactors of "+text, read, code, list)
	is(t, "SameFactors of "+text, "true true", impl.SameFactors(read, list), impl.SameFactors(list, slices.Clone(list)))
	n, code := impl.FactorsLength(list)
	counts(t, "FactorsLength of "+text, n, code, int64(len(w)))
	word, code := impl.WordOfFactors(list)
	is(t, "WordOfFactors of "+text, w+" 0", word, code)
}

func TestPromise15Factors(t *testing.T) {
	for w, want := range map[string]string{
		"": "", "a": "a\n", "dd": "d\n0 1\n", "aaa": "a\n0 1\n0 1\n", "aaaa": "a\n0 1\n0 2\n", "aaaaaaa": "a\n0 1\n0 2\n0 3\n", "abab": "a\nb\n0 2\n", "ababa": "a\nb\n0 2\n0 1\n", "abcbcab": "a\nb\nc\n1 2\n0 2\n",
		"abaab": "a\nb\n0 1\n0 2\n", "abbab": "a\nb\n1 1\n0 2\n", "bbabbab": "b\n0 1\na\n0 3\n0 1\n", "abacaba": "a\nb\n0 1\nc\n0 3\n", "dcba": "d\nc\nb\na\n",
	} {
		found, code := impl.FactorsOf(w)
		same(t, "FactorsOf "+w, found, code, factorsBy(w))
		is(t, "the factors of "+w, want, factorLines(found))
	}
	for _, w := range append(wordsUpTo("ab", 10), wordsUpTo("abcd", 5)...) {
		found, code := impl.FactorsOf(w)
		same(t, "FactorsOf "+w, found, code, factorsBy(w))
		factorsAreRight(t, w)
	}
	for _, w := range append(makerWords(), longWords()...) {
		factorsAreRight(t, w)
	}
}

// TestPromise15MaxFactors finds words with exactly MaxFactors factors, and with one more.
func TestPromise15MaxFactors(t *testing.T) {
	for seed := range uint32(6) {
		// The factors of a beginning of a word are those of the word, but for the last one.
		long := mixedWord("abcd"[:2+seed%3], 1200, seed*31+1)
		n := int(factoredLength(factorsBy(long)[:impl.MaxFactors]))
		for k, right := range []bool{true, true, false, false} {
			want := factorsBy(long[:n-1+k])
			is(t, "whether there are not too many factors", fmt.Sprint(right), len(want) <= impl.MaxFactors)
			found, code := impl.FactorsOf(long[:n-1+k])
			if right {
				same(t, "FactorsOf a word at the limit", found, code, want)
			} else {
				failsWith(t, "FactorsOf a word with too many factors", list(found, code), impl.ErrLimit)
			}
		}
	}
	for _, letters := range []string{"abcd", "ab"} {
		failsWith(t, "FactorsOf a long word", list(impl.FactorsOf(mixedWord(letters, impl.MaxPlain, 1))), impl.ErrLimit)
	}
}

func TestPromise15ValidFactors(t *testing.T) {
	for _, list := range smallFactors(4) {
		comesBack(t, list, factoredWord(list))
	}
	for _, list := range invalidFactors() {
		if impl.ValidFactors(list) {
			t.Errorf("%.200q is valid", factorLines(list))
		}
		is(t, "the text of factors that are not valid", "", impl.FactorsText(list))
	}
	// A repetition goes as far as the length of all before it, and no further.
	for _, w := range []string{"", "a", "ba", "abaab"} {
		n := int64(len(w))
		for from := int64(-2); from < n+3; from++ {
			for length := int64(-2); length < n+3; length++ {
				right := from >= 0 && length >= 1 && from+length <= n
				for _, behind := range [][]impl.Factor{nil, lettersOnly("c")} {
					list := append(append(lettersOnly(w), again(from, length)), behind...)
					is(t, "whether factors are valid", fmt.Sprint(right), impl.ValidFactors(list))
				}
			}
		}
	}
}

// TestPromise15FactorsAtTheirLimits checks lists of MaxFactors factors and of MaxLength letters, and of one more.
func TestPromise15FactorsAtTheirLimits(t *testing.T) {
	ones := lettersOnly(mixedWord("abcd", impl.MaxFactors, 1))
	comesBack(t, ones, mixedWord("abcd", impl.MaxFactors, 1))
	for _, f := range []impl.Factor{lone("a"), again(0, 1), again(0, impl.MaxFactors), lone("")} {
		is(t, "one factor more", "false", impl.ValidFactors(append(slices.Clone(ones), f)))
	}
	full := fullFactors()
	text := factorLines(full)
	is(t, "MaxLength letters", "true "+text, impl.ValidFactors(full), impl.FactorsText(full))
	read, code := impl.ReadFactors(text)
	same(t, "ReadFactors of MaxLength letters", read, code, full)
	n, code := impl.FactorsLength(full)
	counts(t, "FactorsLength of MaxLength letters", n, code, impl.MaxLength)
	for _, f := range []impl.Factor{lone("a"), again(0, 1), again(5, impl.MaxLength-5)} {
		more := append(slices.Clone(full), f)
		is(t, "one letter more", "false", impl.ValidFactors(more))
		read, code := impl.ReadFactors(factorLines(more))
		failsWith(t, "ReadFactors of one letter more", list(read, code), impl.ErrSyntax)
	}
	less := full[:len(full)-1]
	left := int64(impl.MaxLength - 1<<49)
	for length, right := range map[int64]bool{left - 1: true, left: true, left + 1: false, 1 << 49: false} {
		is(t, "up to MaxLength letters", fmt.Sprint(right), impl.ValidFactors(append(slices.Clone(less), again(1<<49-length, length))))
	}
	// As many factors as there can be, most of which are one letter long.
	many := slices.Clone(full[:40])
	for len(many) < impl.MaxFactors {
		many = append(many, again(int64(len(many)), 1))
	}
	n, code = impl.FactorsLength(many)
	counts(t, "FactorsLength of many factors", n, code, 1<<39+80)
	is(t, "many factors", "true false", impl.ValidFactors(many), impl.ValidFactors(append(many, lone("a"))))
}

func TestPromise15SameFactors(t *testing.T) {
	lists := append(append(smallFactors(3), invalidFactors()...), fullFactors(), nil)
	for k, a := range lists {
		for l, b := range lists {
			if (k+l)%7 == 0 || k == l {
				is(t, "SameFactors", fmt.Sprint(slices.Equal(a, b)), impl.SameFactors(a, b))
			}
		}
		if len(a) == 0 || len(a) > 1000 {
			continue
		}
		for _, change := range []func(f *impl.Factor){func(f *impl.Factor) { f.Letter += "b" }, func(f *impl.Factor) { f.From++ }, func(f *impl.Factor) { f.Length-- }} {
			for _, place := range []int{0, len(a) - 1} {
				b := slices.Clone(a)
				change(&b[place])
				is(t, "SameFactors of a changed list", "false false", impl.SameFactors(a, b), impl.SameFactors(b, a))
			}
		}
		is(t, "SameFactors of a shorter list", "false false", impl.SameFactors(a, a[1:]), impl.SameFactors(a[:len(a)-1], a))
	}
}

// wrongFactorTexts returns texts of no factors, for different reasons.
func wrongFactorTexts() []string {
	texts := []string{
		"\n", "a", "ab", " ", "a \n", " a\n", "a\n\n", "\na\n", "a\r\n", "a\n0 1", "e\n", "A\n", "ab\n", "a b\n", "a\nb\n0 2\n\n", "\x00\n", "ä\n", "\xff\n", "a\x00\n",
		"0 1\n", "a\n0 2\n", "a\n1 1\n", "a\n0 0\n", "a\n1 0\n", "a\n-1 1\n", "a\n0 -1\n", "a\nb\n-1 2\n", "a\nb\n1 2\n",
		"a\n00 1\n", "a\n0 01\n", "a\n+0 1\n", "a\n0 +1\n", "a\n-0 1\n", "a\n0 -1\n", "a\n0x0 1\n", "a\n0 0x1\n", "a\n0_0 1\n", "a\n0. 1\n", "a\n0 1.0\n", "a\n0 1e0\n",
		"a\n0  1\n", "a\n 0 1\n", "a\n0 1 \n", "a\n0\t1\n", "a\n01\n", "a\n0\n", "a\n1\n", "a\n0 \n", "a\n 1\n", "a\n0 1 0\n", "a\n0 1b\n", "a\nb0 1\n", "a\n0,1\n", "a\n0 1,b\n",
		"a\n0 18446744073709551617\n", "a\n18446744073709551616 1\n", "a\n0 9223372036854775808\n", "a\n0 9223372036854775807\n", "a\n9223372036854775807 1\n", "a\n9223372036854775807 9223372036854775807\n", "a\n0 00000000000000000001\n",
		"a\n" + strings.Repeat("0", 500) + " 1\n", "a\n0 " + strings.Repeat("9", 500) + "\n", "letters\n", "a\n٠ 1\n", "a\n0 １\n",
		strings.Repeat("a\n", impl.MaxFactors+1), strings.Repeat("\n", impl.MaxFactorText), strings.Repeat("a", impl.MaxFactorText), strings.Repeat("a\n", impl.MaxFactorText/2),
	}
	for _, list := range invalidFactors() {
		// Some have the text of another list: that of a letter does not tell its other fields, or it is that of a repetition.
		hidden := slices.ContainsFunc(list, func(f impl.Factor) bool { return f.Letter != "" && f != lone(f.Letter) || f.Letter == "0 1" })
		if text := factorLines(list); !hidden && len(text) <= impl.MaxFactorText {
			texts = append(texts, text)
		}
	}
	return texts
}

func TestPromise15WrongTexts(t *testing.T) {
	for _, text := range wrongFactorTexts() {
		read, code := impl.ReadFactors(text)
		failsWith(t, fmt.Sprintf("ReadFactors of %.60q", text), list(read, code), impl.ErrSyntax)
	}
	read, code := impl.ReadFactors("")
	same(t, "ReadFactors of nothing", read, code, []impl.Factor{})
	// A byte more or less, or another one, makes another list, or none.
	text := "a\nb\n0 2\nc\n1 3\n10 1\n0 11\n"
	for k := range len(text) + 1 {
		for _, by := range []string{"", "a", "e", "0", "1", "9", " ", "\n", "-", "+", "\x00", "\xff"} {
			for _, cut := range []int{0, 1} {
				changed := text[:k] + by + text[min(k+cut, len(text)):]
				read, code := impl.ReadFactors(changed)
				if code == impl.OK {
					is(t, "the text again", changed+" true", factorLines(read), impl.ValidFactors(read))
				} else {
					failsWith(t, "ReadFactors", list(read, code), impl.ErrSyntax)
				}
			}
		}
	}
}

// TestPromise15TextLimit checks texts of exactly MaxFactorText bytes, none of which is right, and of one more.
func TestPromise15TextLimit(t *testing.T) {
	for _, text := range []string{strings.Repeat("a\n", impl.MaxFactorText/2), strings.Repeat("x", impl.MaxFactorText), "a\n0 " + strings.Repeat("0", impl.MaxFactorText-6) + "1\n"} {
		is(t, "the bytes of a text", fmt.Sprint(impl.MaxFactorText), len(text))
		read, code := impl.ReadFactors(text)
		failsWith(t, "ReadFactors of a text at the limit", list(read, code), impl.ErrSyntax)
		for _, more := range []string{"\n", "a\n", "x", strings.Repeat("a", 900000)} {
			read, code := impl.ReadFactors(text + more)
			failsWith(t, "ReadFactors of a text behind the limit", list(read, code), impl.ErrRange)
		}
	}
	// Every valid list has a shorter text, also this one.
	n := int64(1 << 49)
	long := fullFactors()[:len(fullFactors())-1]
	for len(long) < impl.MaxFactors {
		long = append(long, again(n-4444444444444, 4444444444444))
		n += 4444444444444
	}
	text := factorLines(long)
	read, code := impl.ReadFactors(text)
	same(t, "ReadFactors of a long text", read, code, long)
	if len(text) > impl.MaxFactorText || len(text) < 2500 {
		t.Errorf("the text of factors has %d bytes", len(text))
	}
}

// TestPromise15PlainWords checks factors whose word is a plain word by its length, and by one letter none.
func TestPromise15PlainWords(t *testing.T) {
	for _, w := range []string{"a", "ab", "abaab", "abcd", "abcda"} {
		long := doublings(w, 8)
		n := int64(len(w)) << 8
		for _, length := range []int64{impl.MaxPlain - 2, impl.MaxPlain - 1, impl.MaxPlain, impl.MaxPlain + 1, impl.MaxPlain + 2, 3000} {
			found := slices.Clone(long)
			for at := n; at < length; {
				part := min(at, length-at)
				found = append(found, again(at-part, part))
				at += part
			}
			m, code := impl.FactorsLength(found)
			counts(t, "FactorsLength", m, code, length)
			word, code := impl.WordOfFactors(found)
			if length <= impl.MaxPlain {
				is(t, "WordOfFactors", factoredWord(found)+" 0", word, code)
			} else {
				failsWith(t, "WordOfFactors of a long word", list(word, code), impl.ErrLimit)
			}
			g, code := impl.FactorsGrammar(found)
			is(t, "FactorsGrammar", "0 "+factoredWord(found), code, wordOf(g))
		}
	}
	for _, long := range longFactors() {
		failsWith(t, "WordOfFactors of a long word", list(impl.WordOfFactors(long)), impl.ErrLimit)
	}
}

// factorsMake holds the grammar of factors against what it should be, and returns the number of rules on the way.
func factorsMake(t *testing.T, found []impl.Factor) int {
	t.Helper()
	name := fmt.Sprintf("FactorsGrammar of %.90q", factorLines(found))
	want, most := factorsMadeBy(found)
	g, code := impl.FactorsGrammar(found)
	if most > impl.MaxRules {
		failsWith(t, name, list(g, code), impl.ErrLimit)
		return most
	}
	sameGrammar(t, name, g, code, want)
	is(t, "the word of "+name, factoredWord(found)+" true", wordOf(g), impl.ValidGrammar(g))
	return most
}

func TestPromise14FactorsGrammars(t *testing.T) {
	for text, want := range map[string]string{
		"": "", "c\n": "c\n", "a\n0 1\n": "a\n0 0\n", "a\n0 1\n0 2\n": "a\n0 0\n1 1\n", "b\na\n0 2\n": "b\na\n0 1\n2 2\n", "a\nb\na\n1 2\n": "a\nb\n0 1\n2 0\n1 0\n3 4\n",
		"a\nb\n0 1\n0 2\n": example, "a\nb\n0 1\n1 2\n0 2\n": "a\nb\n0 1\n2 0\n1 0\n3 4\n5 2\n",
	} {
		g, code := impl.FactorsGrammar(factorsOfText(text))
		sameGrammar(t, "FactorsGrammar by hand", g, code, gram(want))
	}
	for _, list := range smallFactors(4) {
		factorsMake(t, list)
	}
	for seed := range uint32(150) {
		factorsMake(t, mixedFactors(nil, 3+int(seed)%25, 1+int64(seed)%60, seed*71))
	}
	for _, w := range append(wordsUpTo("ab", 8), makerWords()...) {
		found, code := impl.FactorsOf(w)
		if code != impl.OK {
			continue
		}
		if most := factorsMake(t, found); most > impl.MaxRules {
			continue
		}
		g, _ := impl.FactorsGrammar(found)
		is(t, "the word of the grammar of factors", w, wordOf(g))
	}
}

// factorsOfText returns the factors with a text, without ReadFactors.
func factorsOfText(text string) []impl.Factor {
	list := []impl.Factor{}
	for _, rule := range gram(text).Rules {
		list = append(list, impl.Factor{Letter: rule.Letter, From: rule.Left, Length: rule.Right})
	}
	return list
}

// TestPromise14FactorsAtTheirLimit makes grammars of factors with exactly MaxRules rules on the way, and with one more.
func TestPromise14FactorsAtTheirLimit(t *testing.T) {
	met := map[int]int{}
	later := 0
	for seed := range uint32(3) {
		for n := int64(96); n < 103; n++ {
			w := mixedWord("abcd", int(n), seed+8)
			start := append(lettersOnly(w), again(1, n-1))
			factorsMake(t, start)
			for length := n - 8; length < n+4; length++ {
				// What begins in the middle of a pair is made of many pieces.
				more := append(slices.Clone(start), again(2, n-3), again(3, length))
				most := factorsMake(t, more)
				met[most]++
				// The list is valid, and further factors do not take the error away.
				if most > impl.MaxRules {
					later++
					failsWith(t, "FactorsGrammar with a further factor", list(impl.FactorsGrammar(append(more, again(0, 1)))), impl.ErrLimit)
				}
			}
		}
	}
	if met[impl.MaxRules] == 0 || met[impl.MaxRules+1] == 0 || later == 0 {
		t.Errorf("no list is at the limit: %v", met)
	}
	// A part has more rules than the grammar before it, all of which are met in what the part repeats.
	long := append(lettersOnly(mixedWord("abcd", 108, 8)), again(1, 107), again(0, 108), again(2, 90))
	before, most := factorsMadeBy(long)
	n := factoredLength(long)
	part := partBy(before, 4, int(n))
	if most > impl.MaxRules || len(part.Rules) <= impl.MaxRules {
		t.Errorf("the part has %d rules, the grammar before it %d", len(part.Rules), len(before.Rules))
	}
	for _, behind := range [][]impl.Factor{nil, lettersOnly("a")} {
		more := append(append(slices.Clone(long), again(4, n-4)), behind...)
		failsWith(t, "FactorsGrammar with a part with too many rules", list(impl.FactorsGrammar(more)), impl.ErrLimit)
	}
}

// sayFactors checks that a grammar has the word of factors: each letter stands at its place, and each
// repetition is the same as the part that it repeats. There is only one word of which this is true.
func sayFactors(t *testing.T, name string, g impl.Grammar, list []impl.Factor) {
	t.Helper()
	n := int64(0)
	for _, f := range list {
		if f.Letter != "" {
			x, code := impl.LetterAt(g, n)
			is(t, "a letter of "+name, f.Letter+" 0", x, code)
			n++
			continue
		}
		equal, code := impl.EqualParts(g, n, f.From, f.Length)
		saysWhether(t, "a repetition of "+name, equal, code, true)
		n += f.Length
	}
	length, code := impl.LengthOf(g)
	counts(t, "the length of "+name, length, code, n)
	counts(t, "FactorsLength of "+name, length, impl.OK, n)
}

// joinedFactors returns the grammar of factors by the functions of chapter 2, and the code of the first error on the way.
func joinedFactors(list []impl.Factor) (impl.Grammar, int64) {
	var g impl.Grammar
	for _, f := range list {
		next, code := impl.PlainGrammar(f.Letter)
		if f.Letter == "" {
			next, code = impl.PartGrammar(g, f.From, f.From+f.Length)
		}
		if code == impl.OK {
			g, code = impl.JoinGrammars(g, next)
		}
		if code != impl.OK {
			return impl.Grammar{}, code
		}
		g, _ = impl.TrimGrammar(g)
	}
	return g, impl.OK
}

// TestPromise14LongFactors makes grammars of factors whose words have up to MaxLength letters.
func TestPromise14LongFactors(t *testing.T) {
	made := 0
	for k, found := range longFactors() {
		name := fmt.Sprint("long factors ", k)
		want, code := joinedFactors(found)
		g, same := impl.FactorsGrammar(found)
		is(t, "the code of "+name, fmt.Sprint(code), same)
		if code != impl.OK {
			failsWith(t, name, list(g, same), code)
			continue
		}
		made++
		sameGrammar(t, name, g, same, want)
		sayFactors(t, name, g, found)
		level, code := impl.LevelGrammar(g)
		if code == impl.OK {
			sayFactors(t, "the level grammar of "+name, level, found)
		}
	}
	if made < 10 {
		t.Errorf("only %d grammars of long factors are made", made)
	}
	whole, code := impl.FactorsGrammar(fullFactors())
	equal, same := impl.EqualWords(must(t, whole, code), fullGrammar())
	saysWhether(t, "MaxLength letters", equal, same, true)
	ones, code := impl.FactorsGrammar(doublings("a", 49))
	sameGrammar(t, "2 to the power 49 letters", ones, code, doubled(rules(letter("a")), 49))
	// Each beginning of a list has the beginning of its word.
	long := longFactors()[4]
	g, _ := impl.FactorsGrammar(long)
	for k := range long {
		start, code := impl.FactorsGrammar(long[:k])
		begins, same := impl.StartsWith(g, must(t, start, code))
		saysWhether(t, "the beginning of a list", begins, same, true)
	}
}
