package tests

import (
	"fmt"
	"slices"
	"strings"
	"testing"

	"loop.example/g01133/impl"
)

// sayPeriods holds the functions of one grammar that are about its whole word against its plain word.
func sayPeriods(t *testing.T, g impl.Grammar) {
	t.Helper()
	w := wordOf(g)
	name := fmt.Sprintf("%.60q of %.80q", w, textOf(g))
	n := int64(len(w))
	periods, _ := impl.PeriodsOf(w)
	for p := range n {
		yes, code := impl.HasPeriod(g, p+1)
		saysWhether(t, fmt.Sprint("HasPeriod ", p+1, " of ", name), yes, code, slices.Contains(periods, p+1))
		if p > 60 && p < n-5 && !slices.Contains(periods, p+1) {
			break
		}
	}
	for _, p := range []int64{least, -n, -1, 0, n + 1, n + 2, greatest} {
		if p < 1 || p > n {
			yes, code := impl.HasPeriod(g, p)
			failsWith(t, fmt.Sprint("HasPeriod ", p, " of ", name), list(yes, code), impl.ErrRange)
		}
	}
	yes, code := impl.IsPalindromic(g)
	want, _ := impl.IsPalindrome(w)
	saysWhether(t, "IsPalindromic of "+name, yes, code, want)
	root, times, code := impl.RootPower(g)
	if n == 0 {
		failsWith(t, "RootPower of "+name, list(root, times, code), impl.ErrState)
	} else {
		shortest, k, _ := impl.RootOf(w)
		is(t, "RootPower of "+name, fmt.Sprint(len(shortest), k, " 0"), root, times, code)
	}
	place, code := impl.FirstUnlike(g)
	runs, _ := impl.RunsOf(w)
	if len(runs) < 2 {
		counts(t, "FirstUnlike of "+name, place, code, -impl.ErrNotFound)
	} else {
		counts(t, "FirstUnlike of "+name, place, code, runs[0].Count)
	}
}

// sayTwice holds LongestTwice against the plain word.
func sayTwice(t *testing.T, g impl.Grammar) {
	t.Helper()
	w := wordOf(g)
	for i := range len(w) + 1 {
		want := (len(w) - i) / 2
		for w[i:i+want] != w[i+want:i+2*want] {
			want--
		}
		length, code := impl.LongestTwice(g, int64(i))
		counts(t, fmt.Sprintf("LongestTwice %d of %.80q", i, w), length, code, int64(want))
	}
	for _, i := range []int64{least, -1, int64(len(w)) + 1, greatest} {
		length, code := impl.LongestTwice(g, i)
		failsWith(t, fmt.Sprintf("LongestTwice %d of %.80q", i, w), list(length, code), impl.ErrRange)
	}
}

// sayRules holds EqualRules against the words of all rules.
func sayRules(t *testing.T, g impl.Grammar) {
	t.Helper()
	words := wordsOf(g)
	var want []int64
	for _, word := range words {
		want = append(want, int64(slices.Index(words, word)))
	}
	got, code := impl.EqualRules(g)
	same(t, "EqualRules of "+textOf(g), got, code, want)
}

func TestPromise7SmallGrammars(t *testing.T) {
	for _, g := range append(someGrammars(), mixedGrammars(40, 1000)...) {
		sayPeriods(t, g)
		sayRules(t, g)
		if len(wordOf(g)) < 60 {
			sayTwice(t, g)
		}
	}
	for _, w := range append(wordsUpTo("ab", 8)[1:], wordsUpTo("abcd", 3)[1:]...) {
		g := plainBy(w)
		sayPeriods(t, g)
		sayTwice(t, g)
	}
	for _, w := range []string{strings.Repeat("abaab", 12), strings.Repeat("a", 60), strings.Repeat("ab", 30) + "a", "abcddcba", strings.Repeat("abcacb", 6), strings.Repeat("aabaab", 6)} {
		for _, g := range plainWays(w) {
			sayPeriods(t, g)
			sayTwice(t, g)
			sayRules(t, g)
		}
	}
	sayPeriods(t, impl.Grammar{})
	sayTwice(t, impl.Grammar{})
	sayRules(t, impl.Grammar{})
}

// TestPromise7ManyRules takes grammars of MaxRules rules.
func TestPromise7ManyRules(t *testing.T) {
	for _, g := range []impl.Grammar{chain(400), mixedGrammar(400, 1900, 36), mixedGrammar(400, 300, 11), plainBy(mixedWord("ab", 399, 3)), plainBy(strings.Repeat("abc", 132) + "ab"), fullRuns()} {
		if len(g.Rules) != impl.MaxRules {
			t.Fatalf("there are %d rules", len(g.Rules))
		}
		sayPeriods(t, g)
		sayRules(t, g)
		if len(wordOf(g)) < 500 {
			sayTwice(t, g)
		}
	}
	sayRules(t, rules(slices.Repeat([]impl.Rule{letter("d")}, 400)...))
	twice := slices.Repeat(chain(200).Rules, 2)
	sayRules(t, rules(twice...))
	sayPeriods(t, rules(twice...))
}

// fullRuns returns a grammar of 400 rules in which each word of one to four letters "a" or "b" stands often.
func fullRuns() impl.Grammar {
	g := rules(letter("a"), letter("b"), letter("a"), letter("b"))
	for k := 0; len(g.Rules) < 399; k++ {
		g.Rules = append(g.Rules, pair(k%4, (k/4+k)%4), pair(last(g)-k%3, k%4))
	}
	g.Rules = append(g.Rules[:399], pair(398, 397))
	return g
}

// TestPromise7Shifts holds all shifts of small words against the definition of a shift.
func TestPromise7Shifts(t *testing.T) {
	grammars := append(smallGrammars(3), mixedGrammars(14, 16)...)
	for k, g := range grammars {
		w := wordOf(g)
		n := int64(len(w))
		for i := range max(1, n) {
			shift := w[i:] + w[:i]
			others := []impl.Grammar{plainBy(shift), grammars[(k*13+int(i))%len(grammars)], g}
			for _, h := range append(others, smallGrammars(2)...) {
				yes, code := impl.IsShiftBy(g, h, i)
				saysWhether(t, fmt.Sprint("IsShiftBy ", w, wordOf(h), i), yes, code, wordOf(h) == shift)
			}
		}
		for _, i := range []int64{least, -1, max(1, n), n + 1, greatest} {
			for _, h := range []impl.Grammar{g, {}, gram(example)} {
				yes, code := impl.IsShiftBy(g, h, i)
				failsWith(t, fmt.Sprint("IsShiftBy ", w, wordOf(h), i), list(yes, code), impl.ErrRange)
			}
		}
	}
}

// TestPromise7Powers holds powers of small words against words that are put together.
func TestPromise7Powers(t *testing.T) {
	grammars := append(smallGrammars(3), mixedGrammars(9, 9)[:60]...)
	for _, g := range grammars {
		for _, h := range grammars {
			u, w := wordOf(g), wordOf(h)
			times, code := impl.IsPowerOf(g, h)
			switch {
			case w == "":
				counts(t, "IsPowerOf the empty word", times, code, -impl.ErrState)
			case strings.Repeat(w, len(u)/len(w)) == u:
				counts(t, fmt.Sprintf("IsPowerOf %q %q", u, w), times, code, int64(len(u)/len(w)))
			default:
				counts(t, fmt.Sprintf("IsPowerOf %q %q", u, w), times, code, -impl.ErrNotFound)
			}
		}
	}
	for _, w := range []string{"a", "ab", "abaab", "abab"} {
		for times := range 14 {
			power := strings.Repeat(w, times)
			if times == 0 {
				got, code := impl.IsPowerOf(impl.Grammar{}, plainBy(w))
				counts(t, "IsPowerOf the empty word", got, code, 0)
				continue
			}
			for _, g := range plainWays(power) {
				got, code := impl.IsPowerOf(g, plainBy(w))
				counts(t, "IsPowerOf "+power, got, code, int64(times))
				got, code = impl.IsPowerOf(g, plainBy(w+"c"))
				counts(t, "IsPowerOf another word", got, code, -impl.ErrNotFound)
				got, code = impl.IsPowerOf(joinOf(t, g, plainBy("c")), plainBy(w))
				counts(t, "IsPowerOf and a letter", got, code, -impl.ErrNotFound)
			}
		}
	}
}

// sortedBy returns places in the order of what follows from them.
func sortedBy(places []int64, rest func(i, j int64) int) []int64 {
	sorted := slices.Clone(places)
	slices.SortStableFunc(sorted, rest)
	return sorted
}

func TestPromise7SortedPlaces(t *testing.T) {
	for k, g := range append(someGrammars(), mixedGrammar(400, 1900, 36), chain(400)) {
		w := wordOf(g)
		byRest := func(i, j int64) int { return strings.Compare(w[i:], w[j:]) }
		for count := range 21 {
			if count%4 != k%4 && count < 19 {
				continue
			}
			var places []int64
			for l := range count {
				places = append(places, int64(l*l*7+l*k+3*count)%int64(len(w)+1))
			}
			sorted, code := impl.SortParts(g, places)
			same(t, fmt.Sprintf("SortParts %v of %.60q", places, w), sorted, code, sortedBy(places, byRest))
		}
	}
}

// TestPromise7ManyPlaces checks 20 places and 21, places outside, and equal ones.
func TestPromise7ManyPlaces(t *testing.T) {
	g := gram(example)
	for _, h := range []impl.Grammar{{}, gram("a\n"), g, chain(400), fullGrammar()} {
		n, _ := impl.LengthOf(h)
		for _, bad := range []int64{least, -1, n + 1, greatest} {
			for _, places := range [][]int64{{bad}, {0, bad}, {bad, n, n}, append(make([]int64, 19), bad)} {
				sorted, code := impl.SortParts(h, places)
				failsWith(t, fmt.Sprint("SortParts ", places), list(sorted, code), impl.ErrRange)
			}
		}
		for _, many := range []int{21, 22, 100, 1000000} {
			sorted, code := impl.SortParts(h, make([]int64, many))
			failsWith(t, fmt.Sprint("SortParts of places: ", many), list(sorted, code), impl.ErrRange)
		}
		sorted, code := impl.SortParts(h, make([]int64, 20))
		same(t, "SortParts of one place 20 times", sorted, code, make([]int64, 20))
		sorted, code = impl.SortParts(h, nil)
		same(t, "SortParts without places", sorted, code, nil)
		sorted, code = impl.SortParts(h, []int64{0, n, 0, n})
		same(t, "SortParts of both ends", sorted, code, []int64{n, n, 0, 0})
	}
	sorted, code := impl.SortParts(g, []int64{0, 1, 2, 3, 4, 5})
	same(t, "SortParts of all places of abaab", sorted, code, []int64{5, 2, 3, 0, 4, 1})
	sorted, code = impl.SortParts(g, []int64{4, 1, 4, 3, 5, 1, 5})
	same(t, "SortParts of equal places", sorted, code, []int64{5, 5, 3, 4, 4, 1, 1})
}

// TestPromise7LongWords holds periods, palindromes, roots, shifts and places of long words against their pieces.
func TestPromise7LongWords(t *testing.T) {
	words := hugeWords()
	for k, w := range words {
		n, places := w.length(), w.somePlaces()
		for l, g := range grammarsOf(t, w) {
			name := fmt.Sprint(w, l)
			for _, p := range append([]int64{1, 2, 3, 4, 5, 8, 1000000000, 1000000001, n / 5, n / 10}, places...) {
				if p == 0 {
					continue
				}
				yes, code := impl.HasPeriod(g, p)
				saysWhether(t, fmt.Sprint("HasPeriod ", p, name), yes, code, commonBy(w, 0, w, p) == n-p)
			}
			yes, code := impl.IsPalindromic(g)
			saysWhether(t, "IsPalindromic "+name, yes, code, commonBy(w, 0, w.turned(), 0) == n)
			place, code := impl.FirstUnlike(g)
			if run := commonBy(w, 0, pieces{{w.letter(0), n}}, 0); run == n {
				counts(t, "FirstUnlike "+name, place, code, -impl.ErrNotFound)
			} else {
				counts(t, "FirstUnlike "+name, place, code, run)
			}
			some := slices.Clone(places[:min(20, len(places))])
			slices.Reverse(some[:len(some)/2])
			sorted, code := impl.SortParts(g, some)
			same(t, "SortParts "+name, sorted, code, sortedBy(some, func(i, j int64) int { return compareBy(w, i, w, j) }))
			sayLongShifts(t, g, w, grammarOf(t, words[(k+l+1)%len(words)]))
		}
	}
}

// sayLongShifts shifts a long word, and changes a letter of what comes of it.
func sayLongShifts(t *testing.T, g impl.Grammar, w pieces, other impl.Grammar) {
	t.Helper()
	n := w.length()
	for _, k := range []int64{0, 1, n / 3, n/2 + 1, n - 1} {
		name := fmt.Sprint("IsShiftBy ", k, w)
		shift := slices.Concat(w.rest(k), w.start(k))
		yes, code := impl.IsShiftBy(g, grammarOf(t, shift), k)
		saysWhether(t, name, yes, code, true)
		for _, i := range []int64{0, n - 1 - k, n / 2, n - 1} {
			x := "a"
			if shift.letter(i) == x {
				x = "b"
			}
			yes, code = impl.IsShiftBy(g, grammarOf(t, shift.with(i, x)), k)
			saysWhether(t, name+" with another letter", yes, code, false)
		}
		yes, code = impl.IsShiftBy(g, grammarOf(t, shift.start(n-1)), k)
		saysWhether(t, name+" and one letter less", yes, code, false)
		if m, _ := impl.LengthOf(other); m != n {
			yes, code = impl.IsShiftBy(g, other, k)
			saysWhether(t, name+" of another length", yes, code, false)
		}
	}
	for _, k := range []int64{-1, n, n + 1} {
		yes, code := impl.IsShiftBy(g, other, k)
		failsWith(t, fmt.Sprint("IsShiftBy ", k, w), list(yes, code), impl.ErrRange)
	}
}

// TestPromise7LongRoots takes powers of words up to MaxRooted letters, and of one more.
func TestPromise7LongRoots(t *testing.T) {
	const n = impl.MaxRooted
	for _, c := range []struct {
		word  string
		times int64
		root  int64
	}{
		{"a", n, 1}, {"ab", n / 2, 2}, {"abaab", n / 5, 5}, {"abab", n / 4, 2}, {"aaaaaaab", n / 8, 8}, {"abcd", 1, 4}, {"c", 1, 1}, {"cc", 1, 1},
		{"abaaba", 111111111111, 3}, {"abc", 333333333333, 3}, {"aab", 1 << 38, 3}, {"ba", 223092870, 2}, {"a", 999999999989, 1}, {"ab", 499999999979, 2},
		{mixedWord("ab", 25, 1), n / 25, 25}, {mixedWord("abcd", 40, 1), n / 40, 40}, {"ba", 6469693230, 2}, {"acb", 999983 * 317811, 3},
	} {
		for _, g := range grammarsOf(t, pieces{{c.word, c.times}}) {
			root, times, code := impl.RootPower(g)
			length := int64(len(c.word)) * c.times
			is(t, fmt.Sprint("RootPower of ", c.word, c.times), fmt.Sprint(c.root, length/c.root, " 0"), root, times, code)
		}
	}
	// Words that are nearly powers: another letter at one place.
	for _, w := range []pieces{{{"a", n - 1}, {"b", 1}}, {{"b", 1}, {"a", n - 1}}, {{"ab", n/4 - 1}, {"aa", 1}, {"ab", n / 4}}, {{"abc", n / 3}, {"a", 1}}} {
		root, times, code := impl.RootPower(grammarOf(t, w))
		is(t, fmt.Sprint("RootPower of ", w), fmt.Sprint(w.length(), 1, " 0"), root, times, code)
	}
	// A root that is long itself, and a word that is a square of a square.
	for _, w := range []pieces{{{"a", n/10 - 1}, {"b", 1}}, {{"a", 12345678}, {"b", 1}}, {{"ab", 1000003}, {"a", 1}}} {
		g := grammarOf(t, w)
		for _, times := range []int64{1, 2, 3, 4, 7, 10} {
			root, count, code := impl.RootPower(powerOf(t, g, times, 2))
			is(t, fmt.Sprint("RootPower of ", w, times), fmt.Sprint(w.length(), times, " 0"), root, count, code)
		}
	}
	for _, w := range []pieces{{{"a", n + 1}}, {{"ab", n/2 + 1}}, {{"a", n}, {"b", 1}}, {{"a", impl.MaxLength}}} {
		root, times, code := impl.RootPower(grammarOf(t, w))
		failsWith(t, fmt.Sprint("RootPower of ", w), list(root, times, code), impl.ErrLimit)
	}
}

// TestPromise7LongPowers takes powers that are longer than roots may be.
func TestPromise7LongPowers(t *testing.T) {
	const n = impl.MaxLength
	for _, w := range []pieces{{{"a", 1}}, {{"ab", 1}}, {{"abaab", 1}}, {{"a", 999}, {"b", 1}}, {{"abc", 1 << 30}, {"d", 1}}, {{"a", n/4 - 1}, {"b", 1}}, {{"abaab", n / 5}}} {
		h := grammarOf(t, w)
		for _, times := range []int64{n / w.length(), (n - 1) / w.length(), 3, 2, 1} {
			if times < 1 || times > n/w.length() {
				continue
			}
			g := powerOf(t, h, times, 100)
			got, code := impl.IsPowerOf(g, h)
			counts(t, fmt.Sprint("IsPowerOf ", w, times), got, code, times)
			got, code = impl.IsPowerOf(cutAndJoined(t, g, times*w.length()/3), h)
			counts(t, fmt.Sprint("IsPowerOf ", w, times), got, code, times)
			if times > 1 {
				got, code = impl.IsPowerOf(h, g)
				counts(t, fmt.Sprint("IsPowerOf a power of ", w), got, code, -impl.ErrNotFound)
				cut := partOf(t, g, 1, times*w.length())
				got, code = impl.IsPowerOf(joinOf(t, cut, plainBy("d")), h)
				counts(t, fmt.Sprint("IsPowerOf with another letter ", w), got, code, -impl.ErrNotFound)
				shifted := joinOf(t, cut, partOf(t, g, 0, 1))
				got, code = impl.IsPowerOf(shifted, h)
				want := int64(-impl.ErrNotFound)
				if len(w) == 1 && len(w[0].word) == 1 {
					want = times
				}
				counts(t, fmt.Sprint("IsPowerOf when shifted ", w), got, code, want)
			}
		}
		got, code := impl.IsPowerOf(h, impl.Grammar{})
		counts(t, "IsPowerOf the empty word", got, code, -impl.ErrState)
		got, code = impl.IsPowerOf(impl.Grammar{}, h)
		counts(t, "IsPowerOf of the empty word", got, code, 0)
	}
	got, code := impl.IsPowerOf(impl.Grammar{}, impl.Grammar{})
	counts(t, "IsPowerOf of two empty words", got, code, -impl.ErrState)
}

// TestPromise7LongestTwice looks at the ends of long words: MaxPlain letters may follow, and no more.
func TestPromise7LongestTwice(t *testing.T) {
	fib := rules(fibonacci().Rules[:17]...)
	tails := []impl.Grammar{{}, thue(11), fib, mixedGrammar(120, 1900, 21), powerOf(t, gram(example), 399, 1000), powerOf(t, mixedGrammar(40, 90, 5), 24, 1000), grammarOf(t, pieces{{"a", 1000}, {"b", 1}, {"a", 998}})}
	for k, w := range hugeWords() {
		for l, tail := range tails {
			if l%3 != k%3 && w.length() < impl.MaxLength/2 {
				continue
			}
			w := slices.Concat(w.rest(5000), pieces{{wordOf(tail), 1}}).tidy()
			g, n := joinOf(t, grammarOf(t, w[:len(w)-1]), tail), w.length()
			if l == 0 {
				g = grammarOf(t, w)
			}
			sayTwiceAtTheEnd(t, g, w)
			for _, i := range []int64{0, 1, n / 2, n - 2002, n - 2001} {
				length, code := impl.LongestTwice(g, i)
				failsWith(t, "LongestTwice with too many letters", list(length, code), impl.ErrLimit)
			}
			for _, i := range []int64{least, -1, n + 1, greatest} {
				length, code := impl.LongestTwice(g, i)
				failsWith(t, "LongestTwice outside", list(length, code), impl.ErrRange)
			}
		}
	}
}

// sayTwiceAtTheEnd holds LongestTwice against the last letters of a long word.
func sayTwiceAtTheEnd(t *testing.T, g impl.Grammar, w pieces) {
	t.Helper()
	for _, m := range []int64{0, 1, 2, 3, 9, 10, 377, 1000, 1001, 1998, 1999, 2000} {
		i := w.length() - m
		want := m / 2
		for want > 0 && commonBy(w, i, w, i+want) < want {
			want--
		}
		length, code := impl.LongestTwice(g, i)
		counts(t, fmt.Sprintf("LongestTwice, %d letters ahead of the end of %.60s", m, w), length, code, want)
	}
}

// TestPromise7LongRules finds rules of long words that are equal, although they are made in other ways.
func TestPromise7LongRules(t *testing.T) {
	for _, w := range hugeWords() {
		ways := grammarsOf(t, w)
		for k, g := range ways[:3] {
			h := ways[k+1]
			both := rules(slices.Concat(g.Rules, h.Rules)...)
			for number := len(g.Rules); number < len(both.Rules); number++ {
				if rule := &both.Rules[number]; rule.Letter == "" {
					*rule = pair(int(rule.Left)+len(g.Rules), int(rule.Right)+len(g.Rules))
				}
			}
			if len(both.Rules) > impl.MaxRules {
				continue
			}
			numbers, code := impl.EqualRules(both)
			if code != impl.OK || len(numbers) != len(both.Rules) {
				t.Fatalf("EqualRules: got the code %d", code)
			}
			if numbers[last(g)] != numbers[last(both)] {
				t.Errorf("EqualRules of %s: the last rules have the numbers %d and %d", w, numbers[last(g)], numbers[last(both)])
			}
			sayFirstRules(t, both, numbers)
		}
	}
	numbers, code := impl.EqualRules(thue(49))
	var want []int64
	for number := range numbers {
		want = append(want, int64(number))
	}
	same(t, "EqualRules of the rules of a Thue word", numbers, code, want)
}

// sayFirstRules holds the numbers of equal rules against EqualWords of some pairs of rules.
func sayFirstRules(t *testing.T, g impl.Grammar, numbers []int64) {
	t.Helper()
	for number, first := range numbers {
		if first > int64(number) || numbers[first] != first {
			t.Errorf("the rule %d is told to be equal to the rule %d", number, first)
		}
		one, two := rules(g.Rules[:number+1]...), rules(g.Rules[:first+1]...)
		yes, code := impl.EqualWords(one, two)
		saysWhether(t, "EqualWords of equal rules", yes, code, true)
		other := (number*7 + 3) % (number + 1)
		yes, code = impl.EqualWords(one, rules(g.Rules[:other+1]...))
		saysWhether(t, "EqualWords of two rules", yes, code, numbers[other] == first)
	}
}
