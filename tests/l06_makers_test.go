package tests

import (
	"fmt"
	"slices"
	"strings"
	"testing"

	"loop.example/g01133/impl"
)

func TestExampleOfChapter6(t *testing.T) {
	const w = "abaab"
	g, code := impl.HalvingGrammar(w)
	sameGrammar(t, "HalvingGrammar", g, code, gram(example))
	g, code = impl.PairsGrammar(w)
	sameGrammar(t, "PairsGrammar", g, code, gram(example))
	is(t, "the phrases", "[a b aa b] 0", list(impl.PhrasesOf(w))...)
	is(t, "the factors", "[{a 0 0} {b 0 0} { 0 1} { 0 2}] 0", list(impl.FactorsOf(w))...)
	is(t, "LeastRules", "5 0", list(impl.LeastRules(w))...)
	g, code = impl.LevelGrammar(gram("a\n0 0\n1 0\n2 0\n"))
	sameGrammar(t, "LevelGrammar", g, code, gram("a\n0 0\n1 1\n"))
}

// TestPromise14ByHand tells by hand which rules there are, and in which order.
func TestPromise14ByHand(t *testing.T) {
	for _, c := range []struct{ w, halving, runs, pairs, phrases string }{
		{"", "", "", "", ""},
		{"a", "a\n", "a\n", "a\n", "a\n"},
		{"d", "d\n", "d\n", "d\n", "d\n"},
		{"aa", "a\n0 0\n", "a\n0 0\n", "a\n0 0\n", "a\n0 0\n"},
		{"ba", "b\na\n0 1\n", "b\na\n0 1\n", "a\nb\n1 0\n", "a\nb\n1 0\n"},
		{"dca", "d\nc\n0 1\na\n2 3\n", "d\nc\n0 1\na\n2 3\n", "a\nc\nd\n2 1\n3 0\n", "a\nc\nd\n2 1\n3 0\n"},
		// The second half of an odd length is the shorter one.
		{"aaa", "a\n0 0\n1 0\n", "a\n0 0\n1 0\n", "a\n0 0\n1 0\n", "a\n0 0\n0 1\n"},
		// Three letters have one pair that is found, four have two.
		{"aaaa", "a\n0 0\n1 1\n", "a\n0 0\n1 1\n", "a\n0 0\n1 1\n", "a\n0 0\n0 1\n2 0\n"},
		{"aaaaa", "a\n0 0\n1 0\n2 1\n", "a\n0 0\n1 1\n2 0\n", "a\n0 0\n1 1\n2 0\n", "a\n0 0\n0 1\n2 1\n"},
		// The phrase "ab" is also the pair of the first two phrases.
		{"abab", "a\nb\n0 1\n2 2\n", "a\nb\n0 1\n2 0\n3 1\n", "a\nb\n0 1\n2 2\n", "a\nb\n0 1\n2 2\n"},
		// "ab" and "ba" are found twice: the first one has the lesser first number.
		{"babab", "b\na\n0 1\n2 0\n1 0\n3 4\n", "b\na\n0 1\n2 0\n3 1\n4 0\n", "a\nb\n0 1\n1 2\n3 2\n", "a\nb\n1 0\n2 2\n3 1\n"},
		// "bc" and "ba" are found twice: the second one has the lesser second number.
		{"bcbabcba", "b\nc\n0 1\na\n0 3\n2 4\n5 5\n", "b\nc\n0 1\n2 0\na\n3 4\n5 0\n6 1\n7 0\n8 4\n", "a\nb\nc\n1 0\n1 2\n4 3\n5 5\n", "a\nb\nc\n1 0\n1 2\n1 2\n5 3\n6 4\n7 3\n"},
		// A run: two further rules, of which the first one is there.
		{"aabaa", "a\n0 0\nb\n1 2\n3 1\n", "a\n0 0\nb\n1 2\n3 1\n", "a\nb\n0 0\n2 1\n3 2\n", "a\nb\n0 1\n0 0\n0 2\n4 3\n"},
	} {
		for k, m := range plainMakers() {
			want := trimmedBy(gram([]string{c.halving, c.runs, c.pairs, c.phrases}[k]))
			g, code := m.make(c.w)
			sameGrammar(t, m.name+" of "+c.w, g, code, want)
			is(t, "the word by hand", c.w, wordOf(want))
		}
	}
}

// makes holds a maker's grammar against what it should be.
func makes(t *testing.T, m plainMaker, w string) int {
	t.Helper()
	name := fmt.Sprintf("%s of %.60s", m.name, w)
	want, most := m.by(w)
	g, code := m.make(w)
	if most > impl.MaxRules {
		failsWith(t, name, list(g, code), impl.ErrLimit)
		return most
	}
	sameGrammar(t, name, g, code, want)
	if !impl.ValidGrammar(g) || wordOf(g) != w {
		t.Errorf("the word of %s is %.200q", name, wordOf(g))
	}
	trimmed, code := impl.TrimGrammar(g)
	sameGrammar(t, "TrimGrammar of "+name, trimmed, code, g)
	return most
}

// makerWords returns words of many kinds that are longer than short ones.
func makerWords() []string {
	var words []string
	for k := range 150 {
		words = append(words, mixedWord("abcd"[:1+k%4], 10+k*7%170, uint32(k*401)))
	}
	for k := range 40 {
		u, w := mixedWord("ab", 3+k%5, uint32(k)), mixedWord("abc", 2+k%7, uint32(k+99))
		words = append(words, strings.Repeat(u, 2+k%9)+strings.Repeat(w, 1+k%6)+strings.Repeat(u+w, 1+k%3))
	}
	// Runs of all lengths, one letter many times, and words without an end.
	for n := range 70 {
		words = append(words, strings.Repeat("b", n+1), strings.Repeat("a", n)+strings.Repeat("ba", 3)+strings.Repeat("a", 70-n))
	}
	for n := range int64(impl.MaxIndex + 1) {
		if w, code := impl.FibonacciWord(n); code == impl.OK {
			words = append(words, w)
		}
		if w, code := impl.ThueWord(n); code == impl.OK {
			words = append(words, w)
		}
	}
	return words
}

func TestPromise14Words(t *testing.T) {
	for _, m := range plainMakers() {
		for _, w := range slices.Concat(wordsUpTo("ab", 11), wordsUpTo("abc", 7), wordsUpTo("abcd", 5), wordsUpTo("dca", 4), makerWords()) {
			makes(t, m, w)
		}
	}
}

// TestPromise14LongWords makes grammars of words of up to MaxPlain letters, some of which have too many rules.
func TestPromise14LongWords(t *testing.T) {
	words := longWords()
	for k := range 12 {
		u := mixedWord("abcd", 20+k*9, uint32(k))
		words = append(words, strings.Repeat(u, impl.MaxPlain/len(u)), mixedWord("ab", 200+k*30, uint32(k)), strings.Repeat("a", 500+k)+u+strings.Repeat("b", 600-k))
	}
	for _, m := range plainMakers() {
		made := 0
		for _, w := range words {
			if makes(t, m, w) <= impl.MaxRules {
				made++
			}
		}
		if made < 10 || made == len(words) {
			t.Errorf("%s: %d of %d long words have not too many rules", m.name, made, len(words))
		}
	}
}

// TestPromise14AtTheirLimit makes grammars with exactly MaxRules rules on the way, and with one more.
func TestPromise14AtTheirLimit(t *testing.T) {
	for _, m := range plainMakers() {
		met := map[int]int{}
		for seed := range uint32(4) {
			// Longer and longer beginnings of the same word need more and more rules.
			long := mixedWord("abcd"[:2+seed%3], impl.MaxPlain, seed*17+3)
			low, high := 0, impl.MaxPlain
			for high-low > 1 {
				n := (low + high) / 2
				if _, most := m.by(long[:n]); most > impl.MaxRules {
					high = n
				} else {
					low = n
				}
			}
			for n := low - 4; n < min(high+4, impl.MaxPlain+1); n++ {
				met[makes(t, m, long[:n])]++
			}
		}
		if met[impl.MaxRules] == 0 || met[impl.MaxRules+1] == 0 {
			t.Errorf("%s: no word is at the limit: %v", m.name, met)
		}
	}
}

// TestPromise14OnTheWay checks that rules before trimming count.
func TestPromise14OnTheWay(t *testing.T) {
	// Each run but the first one adds its letter, until it is trimmed, and a pair.
	for _, c := range []struct {
		runs int
		code int64
	}{{397, impl.OK}, {398, impl.OK}, {399, impl.ErrLimit}, {400, impl.ErrLimit}, {2000, impl.ErrLimit}} {
		g, code := impl.RunsGrammar(strings.Repeat("ab", 1000)[:c.runs])
		is(t, fmt.Sprint("RunsGrammar of runs: ", c.runs), fmt.Sprint(c.code), code)
		if code == impl.OK {
			is(t, "the number of rules", fmt.Sprint(c.runs+1), len(g.Rules))
		}
	}
	// The last run needs so many rules before it is trimmed: one for each digit of its length and one for each further digit 1.
	w := strings.Repeat("ab", 190)
	for times, rules := range map[int]int{1: 1, 2: 2, 3: 3, 4: 3, 255: 15, 256: 9, 257: 10, 511: 17, 1023: 19} {
		joined, most := runJoinedBy(w + strings.Repeat("c", times))
		is(t, "the number of rules on the way", fmt.Sprint(381+rules+1), most)
		g, code := impl.RunsGrammar(w + strings.Repeat("c", times))
		if most <= impl.MaxRules {
			sameGrammar(t, "RunsGrammar with a long run", g, code, joined)
		} else {
			failsWith(t, "RunsGrammar with a long run", list(g, code), impl.ErrLimit)
		}
	}
	// The phrase "ab" is also the pair of the first two ones, so a rule is left out at the end.
	before := 0
	for seed := range uint32(10) {
		long := "abab" + mixedWord("abcd", 1000, seed)
		for n := 500; n < 1000; n++ {
			g, most := phrasedBy(long[:n])
			if most <= impl.MaxRules {
				continue
			}
			if len(trimmedBy(g).Rules) <= impl.MaxRules {
				before++
				made, code := impl.PhraseGrammar(long[:n])
				failsWith(t, "PhraseGrammar with too many rules before it is trimmed", list(made, code), impl.ErrLimit)
			}
			break
		}
	}
	if before == 0 {
		t.Error("no grammar of phrases has too many rules only before it is trimmed")
	}
}

// leastOfAll returns, for each word of at most 8 letters "a" and "b", the least number of rules of a grammar
// of it, as far as this is at most so many: it goes through all grammars, leaving out rules with a word that is there.
func leastOfAll(most int) map[string]int {
	least := map[string]int{"": 0}
	var words []string
	var grow func()
	grow = func() {
		if len(words) > 0 {
			w := words[len(words)-1]
			if n, known := least[w]; !known || n > len(words) {
				least[w] = len(words)
			}
		}
		if len(words) == most {
			return
		}
		options := []string{"a", "b"}
		for _, u := range words {
			for _, v := range words {
				options = append(options, u+v)
			}
		}
		for _, w := range options {
			if len(w) <= impl.MaxLeast && !slices.Contains(words, w) {
				words = append(words, w)
				grow()
				words = words[:len(words)-1]
			}
		}
	}
	grow()
	return least
}

// TestPromise14LeastOfAll holds the least numbers of rules against a search through all grammars.
func TestPromise14LeastOfAll(t *testing.T) {
	const most = 7
	least := leastOfAll(most)
	for _, w := range wordsUpTo("ab", impl.MaxLeast) {
		n, code := impl.LeastRules(w)
		want, known := least[w]
		if known {
			counts(t, "LeastRules of "+w, n, code, int64(want))
		} else if n <= most || code != impl.OK {
			t.Errorf("LeastRules of %s: got %d and the code %d, but it has no grammar of %d rules", w, n, code, most)
		}
	}
}

// canMake reports whether so many further pairs, all of them parts of w, are enough for w.
func canMake(w string, words []string, further int) bool {
	if slices.Contains(words, w) {
		return true
	}
	if further == 0 {
		return false
	}
	for _, u := range words {
		for _, v := range words {
			if made := u + v; strings.Contains(w, made) && !slices.Contains(words, made) && canMake(w, append(slices.Clone(words), made), further-1) {
				return true
			}
		}
	}
	return false
}

// leastBy returns the least number of rules of a word, trying more and more of them from its letters on.
func leastBy(w string) int64 {
	var words []string
	for _, x := range each() {
		if strings.Contains(w, x) {
			words = append(words, x)
		}
	}
	n := 0
	for w != "" && !canMake(w, words, n) {
		n++
	}
	return int64(len(words) + n)
}

// leastWords returns words of at most MaxLeast letters.
func leastWords() []string {
	words := append(wordsUpTo("ab", 6), wordsUpTo("abcd", 4)...)
	for k := range 60 {
		words = append(words, mixedWord("abcd"[:2+k%3], 5+k%4, uint32(k*37)))
	}
	return append(words, "aaaaaaa", "aaaaaaaa", "abababab", "aabbaabb", "abbaabba", "aabaabaa", "abcdabcd", "abcabcab", "dcbadcba", "ddddcccc", "aaabaaab", "bbbabbba")
}

func TestPromise14LeastRules(t *testing.T) {
	for _, w := range leastWords() {
		n, code := impl.LeastRules(w)
		counts(t, "LeastRules of "+w, n, code, leastBy(w))
		// Neither the names of letters matter nor the direction.
		other, code := impl.LeastRules(turnedBy(strings.NewReplacer("a", "c", "b", "a", "c", "d", "d", "b").Replace(w)))
		counts(t, "LeastRules of "+w+" with other letters, turned", other, code, n)
	}
	for w, want := range map[string]int64{"": 0, "a": 1, "d": 1, "aa": 2, "ab": 3, "aaa": 3, "aaaa": 3, "aaaaa": 4, "aaaaaaa": 5, "aaaaaaaa": 4, "abcd": 7, "abcdabcd": 8, "abcdacbd": 11, "abababab": 5, "abcddcba": 11} {
		n, code := impl.LeastRules(w)
		counts(t, "LeastRules of "+w, n, code, want)
	}
}

// TestPromise14MaxLeast checks words of exactly MaxLeast letters and of more.
func TestPromise14MaxLeast(t *testing.T) {
	for _, w := range []string{"aaaaaaaa", "abcdabcd", "abbabaab"} {
		if n, code := impl.LeastRules(w); code != impl.OK || n == 0 {
			t.Errorf("LeastRules of %s: got %d and the code %d", w, n, code)
		}
		for _, x := range each() {
			failsWith(t, "LeastRules of one letter more", list(impl.LeastRules(w+x)), impl.ErrLimit)
		}
	}
	for _, w := range longWords() {
		failsWith(t, "LeastRules of a long word", list(impl.LeastRules(w)), impl.ErrLimit)
	}
}

// grammarsMade returns grammars of a short word, of all makers, and of makers from what others have made.
func grammarsMade(t *testing.T, w string) []impl.Grammar {
	t.Helper()
	var made []impl.Grammar
	for _, m := range append(plainMakers(), plainMaker{name: "PlainGrammar", make: impl.PlainGrammar}) {
		g, code := m.make(w)
		level, same := impl.LevelGrammar(must(t, g, code))
		made = append(made, g, must(t, level, same))
	}
	if w != "" {
		for _, g := range plainWays(w) {
			level, code := impl.LevelGrammar(g)
			made = append(made, g, must(t, level, code))
		}
	}
	found, code := impl.FactorsOf(w)
	is(t, "the code of FactorsOf", "0", code)
	for _, list := range [][]impl.Factor{found, lettersOnly(w)} {
		g, code := impl.FactorsGrammar(list)
		level, same := impl.LevelGrammar(must(t, g, code))
		made = append(made, g, must(t, level, same))
	}
	return made
}

// TestPromise14NoneHasFewer holds the rules of all makers against the least number.
func TestPromise14NoneHasFewer(t *testing.T) {
	for _, w := range append(wordsUpTo("ab", impl.MaxLeast), append(wordsUpTo("abcd", 4), leastWords()...)...) {
		n, code := impl.LeastRules(w)
		is(t, "the code of LeastRules", "0", code)
		for k, g := range grammarsMade(t, w) {
			if wordOf(g) != w || int64(len(g.Rules)) < n {
				t.Errorf("the maker %d makes %q of %s, which has the least number %d", k, textOf(g), w, n)
			}
		}
	}
	for _, g := range someGrammars() {
		if w := wordOf(g); len(w) <= impl.MaxLeast {
			if n, code := impl.LeastRules(w); code != impl.OK || int64(len(g.Rules)) < n {
				t.Errorf("LeastRules of %s: got %d and the code %d, but there is %q", w, n, code, textOf(g))
			}
		}
	}
}
