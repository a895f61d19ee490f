package tests

import (
	"fmt"
	"slices"
	"strings"
	"testing"

	"loop.example/g01133/impl"
)

func TestExampleOfChapter3(t *testing.T) {
	g, h := gram("a\nb\n0 1\n2 2\n3 0\n"), gram("a\nb\n1 0\n2 2\n0 3\n")
	yes, one := impl.EqualWords(g, h)
	n, two := impl.CommonFrom(g, 0, 2)
	period, three := impl.HasPeriod(g, 2)
	palindrome, four := impl.IsPalindromic(g)
	is(t, "the example", "ababa ababa true 0 3 0 true 0 true 0", wordOf(g), wordOf(h), yes, one, n, two, period, three, palindrome, four)
	power, _ := impl.PowerGrammar(gram("a\nb\n0 1\n"), 1000000)
	is(t, "the root of its power", "2 1000000 0", list(impl.RootPower(power))...)
	is(t, "the limit of roots", "1000000000000", impl.MaxRooted)
}

// sayPlain holds the functions of two grammars against their plain words.
func sayPlain(t *testing.T, g, h impl.Grammar) {
	t.Helper()
	u, w := wordOf(g), wordOf(h)
	name := fmt.Sprintf("%.60q and %.60q, of %.80q and %.80q", u, w, textOf(g), textOf(h))
	yes, code := impl.EqualWords(g, h)
	saysWhether(t, "EqualWords of "+name, yes, code, u == w)
	n, _ := impl.CommonStart(u, w)
	place, code := impl.FirstDifference(g, h)
	want := n
	if u == w {
		want = -impl.ErrNotFound
	}
	counts(t, "FirstDifference of "+name, place, code, want)
	order, code := impl.CompareGrammars(g, h)
	want, _ = impl.CompareWords(u, w)
	is(t, "CompareGrammars of "+name, fmt.Sprint(want, " 0"), order, code)
	yes, code = impl.StartsWith(g, h)
	saysWhether(t, "StartsWith of "+name, yes, code, strings.HasPrefix(u, w))
	yes, code = impl.EndsWith(g, h)
	saysWhether(t, "EndsWith of "+name, yes, code, strings.HasSuffix(u, w))
}

func TestPromise6SmallGrammars(t *testing.T) {
	small := smallGrammars(3)
	for _, g := range small {
		for _, h := range small {
			sayPlain(t, g, h)
		}
	}
	some := append(someGrammars(), chain(400), mixedGrammar(400, 1900, 36), mixedGrammar(400, 1900, 8), mixedGrammar(399, 1500, 35))
	for k, g := range some {
		for _, h := range []impl.Grammar{some[(k+1)%len(some)], some[(k*17+3)%len(some)], g} {
			sayPlain(t, g, h)
		}
		w := wordOf(g)
		if len(w) > 0 && len(w) < 390 {
			turned, _ := impl.TurnWord(w)
			back, _ := impl.TurnGrammar(plainBy(turned))
			sayPlain(t, g, back)
		}
	}
}

// TestPromise6OtherGrammars checks that the same short words are equal, and different ones not, however
// they are put together.
func TestPromise6OtherGrammars(t *testing.T) {
	words := append(wordsUpTo("ab", 5)[1:], "abaab", "dcba", strings.Repeat("abc", 20), strings.Repeat("aab", 30), strings.Repeat("c", 99), mixedWord("abcd", 100, 1), mixedWord("ab", 130, 2))
	for k, w := range words {
		for _, g := range plainWays(w) {
			for _, h := range plainWays(w) {
				sayPlain(t, g, h)
			}
			for _, h := range plainWays(words[(k*11+5)%len(words)]) {
				sayPlain(t, g, h)
				sayPlain(t, h, g)
			}
		}
	}
}

// TestPromise6Empty checks that the grammar without rules has the empty word.
func TestPromise6Empty(t *testing.T) {
	none, bare := impl.Grammar{}, impl.Grammar{Rules: []impl.Rule{}}
	sayPlain(t, none, bare)
	for _, g := range []impl.Grammar{gram("a\n"), gram(example), chain(400), plainBy(mixedWord("abcd", 200, 4))} {
		sayPlain(t, none, g)
		sayPlain(t, g, none)
	}
	full := fullGrammar()
	is(t, "the longest word and the empty one", "false 0 0 0 1 0 true 0 true 0", slices.Concat(list(impl.EqualWords(full, none)), list(impl.FirstDifference(full, none)),
		list(impl.CompareGrammars(full, none)), list(impl.StartsWith(full, none)), list(impl.EndsWith(full, none)))...)
	is(t, "the empty word and the longest one", "false 0 0 0 -1 0 false 0 false 0", slices.Concat(list(impl.EqualWords(none, full)), list(impl.FirstDifference(none, full)),
		list(impl.CompareGrammars(none, full)), list(impl.StartsWith(none, full)), list(impl.EndsWith(none, full)))...)
}

// sayLong holds the functions of two grammars against long words.
func sayLong(t *testing.T, g, h impl.Grammar, u, w pieces) {
	t.Helper()
	name := fmt.Sprintf("%.90s and %.90s", u, w)
	n, m := u.length(), w.length()
	start := commonBy(u, 0, w, 0)
	end := commonBy(u.turned(), 0, w.turned(), 0)
	same := start == n && start == m
	yes, code := impl.EqualWords(g, h)
	saysWhether(t, "EqualWords of "+name, yes, code, same)
	place, code := impl.FirstDifference(g, h)
	if same {
		counts(t, "FirstDifference of "+name, place, code, -impl.ErrNotFound)
	} else {
		counts(t, "FirstDifference of "+name, place, code, start)
	}
	order, code := impl.CompareGrammars(g, h)
	is(t, "CompareGrammars of "+name, fmt.Sprint(compareBy(u, 0, w, 0), " 0"), order, code)
	yes, code = impl.StartsWith(g, h)
	saysWhether(t, "StartsWith of "+name, yes, code, start == m)
	yes, code = impl.EndsWith(g, h)
	saysWhether(t, "EndsWith of "+name, yes, code, end == m)
}

// TestPromise6LongWords holds all long words against each other, and those of them that are equal.
func TestPromise6LongWords(t *testing.T) {
	words := hugeWords()
	for k, w := range words {
		ways := grammarsOf(t, w)
		for l, g := range ways {
			if n, _ := impl.LengthOf(g); n != w.length() {
				t.Fatalf("the grammar %d of %s has %d letters", l, w, n)
			}
			for _, h := range ways {
				sayLong(t, g, h, w, w)
			}
			u := words[(k+l+1)%len(words)]
			sayLong(t, g, grammarOf(t, u), w, u)
		}
	}
}

// TestPromise6OneLetter changes a single letter of long words, the first one and the last one, too.
func TestPromise6OneLetter(t *testing.T) {
	for _, w := range hugeWords() {
		ways := grammarsOf(t, w)
		for k, i := range w.somePlaces() {
			if i == w.length() {
				continue
			}
			for l, x := range []string{"a", "b", "c", "d"} {
				u := w.with(i, x)
				g, h := ways[(k+l)%len(ways)], grammarOf(t, u)
				sayLong(t, g, h, w, u)
				sayLong(t, h, g, u, w)
				if place, code := impl.FirstDifference(g, h); x != w.letter(i) {
					counts(t, "FirstDifference of a changed word", place, code, i)
				}
			}
		}
	}
}

// TestPromise6OneLonger holds long words against those that are shorter by some letters at one end.
func TestPromise6OneLonger(t *testing.T) {
	for _, w := range hugeWords() {
		ways, n := grammarsOf(t, w), w.length()
		for k, i := range []int64{1, 2, 3, n / 2, n - 1, n} {
			g := ways[k%len(ways)]
			start, rest := partOf(t, g, 0, n-i), partOf(t, g, i, n)
			for l := range ways {
				h := ways[(k+l)%len(ways)]
				sayLong(t, h, start, w, w.start(n-i))
				sayLong(t, start, h, w.start(n-i), w)
				sayLong(t, h, rest, w, w.rest(i))
				sayLong(t, rest, h, w.rest(i), w)
			}
		}
	}
}

// TestPromise6Fibonacci uses that two Fibonacci words next to each other differ in their last two letters
// alone from the same in the opposite order.
func TestPromise6Fibonacci(t *testing.T) {
	full := fibonacci()
	lengths, _ := impl.LengthsOf(full)
	for number := 2; number < len(full.Rules); number++ {
		g := rules(full.Rules[:number+1]...)
		h := rules(append(slices.Clone(full.Rules[:number]), pair(number-2, number-1))...)
		place, code := impl.FirstDifference(g, h)
		counts(t, "two Fibonacci words", place, code, lengths[number]-2)
		order, code := impl.CompareGrammars(g, h)
		is(t, "the order of two Fibonacci words", fmt.Sprint(2*(number%2)-1, " 0"), order, code)
		yes, code := impl.StartsWith(full, g)
		saysWhether(t, "a Fibonacci word begins with another one", yes, code, true)
		yes, code = impl.EndsWith(full, g)
		saysWhether(t, "a Fibonacci word ends with another one", yes, code, (len(full.Rules)-1-number)%2 == 0)
	}
}

// TestPromise6Thue uses that a Thue word is made by its letters being replaced by "ab" and "ba".
// The sums of letters that many prints take are alike in such words and in their exchanged ones.
func TestPromise6Thue(t *testing.T) {
	g := thue(49)
	made := gram("a\n")
	for n := range 10 {
		mapped, code := impl.MapLetters(made, []string{"ab", "ba", "", ""})
		made = must(t, mapped, code)
		sayPlain(t, made, thue(n+1))
	}
	var mapped impl.Grammar
	for range 39 {
		var code int64
		mapped, code = impl.MapLetters(made, []string{"ab", "ba", "", ""})
		made = must(t, mapped, code)
	}
	made = cutAndJoined(t, made, 123456789012345)
	yes, code := impl.EqualWords(g, made)
	saysWhether(t, "a Thue word made in two ways", yes, code, true)
	exchanged := rules(append(slices.Clone(g.Rules[:last(g)-1]), g.Rules[last(g)], g.Rules[last(g)-1])...)
	yes, code = impl.EqualWords(g, exchanged)
	saysWhether(t, "a Thue word and its exchanged one", yes, code, false)
	is(t, "their order", "0 0 -1 0", append(list(impl.FirstDifference(g, exchanged)), list(impl.CompareGrammars(g, exchanged))...)...)
	// The four quarters of a Thue word are x, y, y and x, y being x exchanged.
	n := int64(1) << 47
	for _, c := range [][3]int64{{0, 3 * n, n}, {n, 2 * n, n}, {0, n, 0}, {2 * n, 3 * n, 0}, {n / 2, 3*n + n/2, n / 2}, {n + n/4, 2*n + n/4, 3 * n / 4}} {
		length, code := impl.CommonFrom(g, c[0], c[1])
		counts(t, fmt.Sprint("CommonFrom of a Thue word and ", c[:2]), length, code, commonOfThue(c[0], c[1], 4*n))
		if length < c[2] {
			t.Errorf("CommonFrom of a Thue word and %v: got %d", c, length)
		}
	}
}

// commonOfThue goes from place to place: the letter of a Thue word at i is told by the number of digits 1
// of i in the base 2, and where both places are multiples of a power of 2, one letter tells of so many.
func commonOfThue(i, j, n int64) int64 {
	length := int64(0)
	for max(i, j)+length < n {
		k, l := i+length, j+length
		step := int64(1)
		for (k|l)&(2*step-1) == 0 && max(k, l)+2*step <= n {
			step *= 2
		}
		if strings.Count(fmt.Sprintf("%b", k), "1")%2 != strings.Count(fmt.Sprintf("%b", l), "1")%2 {
			break
		}
		length += step
	}
	return length
}

// TestPromise6Parts holds parts of small words against each other.
func TestPromise6Parts(t *testing.T) {
	for k, g := range append(smallGrammars(4), mixedGrammars(12, 14)...) {
		w := wordOf(g)
		n := int64(len(w))
		h := mixedGrammar(1+k%9, 12, uint32(k*31))
		u := wordOf(h)
		if k%2 == 0 && n > 0 && n < 20 {
			h, u = plainBy(w), w
		}
		for i := range n + 1 {
			for j := range n + 1 {
				want, _ := impl.CommonStart(w[i:], w[j:])
				length, code := impl.CommonFrom(g, i, j)
				counts(t, fmt.Sprint("CommonFrom of ", w, i, j), length, code, want)
				for length := range n - max(i, j) + 1 {
					yes, code := impl.EqualParts(g, i, j, length)
					saysWhether(t, fmt.Sprint("EqualParts of ", w, i, j, length), yes, code, length <= want)
				}
				bad, code := impl.EqualParts(g, i, j, n-max(i, j)+1)
				failsWith(t, fmt.Sprint("EqualParts behind the end of ", w, i, j), list(bad, code), impl.ErrRange)
			}
			for j := range int64(len(u)) + 1 {
				left := min(n-i, int64(len(u))-j)
				for length := range left + 1 {
					yes, code := impl.SamePart(g, h, i, j, length)
					saysWhether(t, fmt.Sprint("SamePart of ", w, u, i, j, length), yes, code, w[i:i+length] == u[j:j+length])
				}
				bad, code := impl.SamePart(g, h, i, j, left+1)
				failsWith(t, fmt.Sprint("SamePart behind the end of ", w, u, i, j), list(bad, code), impl.ErrRange)
			}
		}
	}
}

// TestPromise6PlacesOutside gives places and lengths that are just outside, or far.
func TestPromise6PlacesOutside(t *testing.T) {
	for _, g := range []impl.Grammar{{}, gram("a\n"), gram(example), chain(400), fullGrammar()} {
		n, _ := impl.LengthOf(g)
		for _, i := range []int64{least, least + 1, -2, -1, n + 1, n + 2, greatest - n, greatest} {
			for _, j := range []int64{0, n / 2, n, i} {
				length, code := impl.CommonFrom(g, i, j)
				failsWith(t, fmt.Sprint("CommonFrom ", i, j), list(length, code), impl.ErrRange)
				length, code = impl.CommonFrom(g, j, i)
				failsWith(t, fmt.Sprint("CommonFrom ", j, i), list(length, code), impl.ErrRange)
				for _, length := range []int64{0, 1, -i, n} {
					yes, code := impl.EqualParts(g, i, j, length)
					failsWith(t, fmt.Sprint("EqualParts ", i, j, length), list(yes, code), impl.ErrRange)
					yes, code = impl.EqualParts(g, j, i, length)
					failsWith(t, fmt.Sprint("EqualParts ", j, i, length), list(yes, code), impl.ErrRange)
					yes, code = impl.SamePart(g, g, i, j, length)
					failsWith(t, fmt.Sprint("SamePart ", i, j, length), list(yes, code), impl.ErrRange)
					yes, code = impl.SamePart(g, g, j, i, length)
					failsWith(t, fmt.Sprint("SamePart ", j, i, length), list(yes, code), impl.ErrRange)
				}
			}
			for _, j := range []int64{0, n / 2, n} {
				for _, k := range []int64{0, 1, j} {
					yes, code := impl.EqualParts(g, j, min(k, n), i)
					failsWith(t, fmt.Sprint("EqualParts with the length ", i), list(yes, code), impl.ErrRange)
					yes, code = impl.SamePart(g, g, min(k, n), j, i)
					failsWith(t, fmt.Sprint("SamePart with the length ", i), list(yes, code), impl.ErrRange)
				}
			}
		}
		for _, i := range []int64{0, n / 2, n} {
			length, code := impl.CommonFrom(g, i, i)
			counts(t, "CommonFrom of equal places", length, code, n-i)
			length, code = impl.CommonFrom(g, i, n)
			counts(t, "CommonFrom of the end", length, code, 0)
			yes, code := impl.EqualParts(g, i, i, n-i)
			saysWhether(t, "EqualParts of equal places", yes, code, true)
			yes, code = impl.EqualParts(g, i, n, 0)
			saysWhether(t, "EqualParts without letters", yes, code, true)
			yes, code = impl.SamePart(g, impl.Grammar{}, i, 0, 0)
			saysWhether(t, "SamePart without letters", yes, code, true)
			yes, code = impl.SamePart(impl.Grammar{}, g, 0, i, 0)
			saysWhether(t, "SamePart without letters", yes, code, true)
		}
	}
}

// TestPromise6LongParts holds parts of long words against each other.
func TestPromise6LongParts(t *testing.T) {
	words := hugeWords()
	for k, w := range words {
		ways, places := grammarsOf(t, w), w.somePlaces()
		u := words[(k+5)%len(words)]
		h := grammarOf(t, u)
		for a, i := range places {
			for b, j := range places {
				g, n := ways[(a+b)%len(ways)], w.length()
				want := commonBy(w, i, w, j)
				length, code := impl.CommonFrom(g, i, j)
				counts(t, fmt.Sprint("CommonFrom of ", w, i, j), length, code, want)
				for _, length := range []int64{want, want + 1, n - max(i, j)} {
					yes, code := impl.EqualParts(g, i, j, length)
					if max(i, j)+length > n {
						failsWith(t, fmt.Sprint("EqualParts of ", w, i, j, length), list(yes, code), impl.ErrRange)
					} else {
						saysWhether(t, fmt.Sprint("EqualParts of ", w, i, j, length), yes, code, length <= want)
					}
				}
				if j > u.length() {
					continue
				}
				want = commonBy(w, i, u, j)
				left := min(n-i, u.length()-j)
				for _, length := range []int64{want, min(want+1, left), left} {
					yes, code := impl.SamePart(g, h, i, j, length)
					saysWhether(t, fmt.Sprint("SamePart of ", w, u, i, j, length), yes, code, length <= want)
				}
			}
		}
	}
}

// placesOf returns some places at which each rule stands in the word.
func placesOf(g impl.Grammar) [][]int64 {
	lengths, _ := impl.LengthsOf(g)
	places := make([][]int64, len(g.Rules))
	places[last(g)] = []int64{0}
	for number, rule := range slices.Backward(g.Rules) {
		if rule.Letter != "" {
			continue
		}
		for _, place := range places[number] {
			if len(places[rule.Left]) < 3 {
				places[rule.Left] = append(places[rule.Left], place)
			}
			if len(places[rule.Right]) < 3 {
				places[rule.Right] = append(places[rule.Right], place+lengths[rule.Left])
			}
		}
	}
	return places
}

// TestPromise6MixedLongWords compares the places of a rule in words without an evident order: the words
// of the rule are equal, and what is in common ends where two letters are different.
func TestPromise6MixedLongWords(t *testing.T) {
	for seed := range 6 {
		g := rules(grown(uint64(seed)).Rules[:140]...)
		lengths, _ := impl.LengthsOf(g)
		n := lengths[last(g)]
		for number, places := range placesOf(g) {
			if number%4 != seed%4 || len(places) < 2 {
				continue
			}
			i, j := places[0], places[len(places)-1]
			length, code := impl.CommonFrom(g, i, j)
			if code != impl.OK || length < lengths[number] || max(i, j)+length > n {
				t.Errorf("CommonFrom %d %d: got %d and the code %d", i, j, length, code)
				continue
			}
			yes, code := impl.EqualWords(partOf(t, g, i, i+length), partOf(t, g, j, j+length))
			saysWhether(t, "EqualWords of equal parts", yes, code, true)
			if max(i, j)+length < n {
				x, _ := impl.LetterAt(g, i+length)
				y, _ := impl.LetterAt(g, j+length)
				sorted, code := impl.SortParts(g, []int64{i, j})
				want := []int64{i, j}
				if x > y {
					want = []int64{j, i}
				}
				if i != j {
					same(t, "SortParts of two places of a rule", sorted, code, want)
					is(t, "the letters behind what is in common", "false", x == y)
				}
			}
		}
		for k := range int64(6) {
			i := n / 7 * k
			x, _ := impl.LetterAt(g, i)
			y := "abcd"[(x[0]-'a'+1+byte(k)%3)%4:][:1]
			h := joinOf(t, joinOf(t, partOf(t, g, 0, i), plainBy(y)), partOf(t, g, i+1, n))
			place, code := impl.FirstDifference(g, h)
			counts(t, "FirstDifference of a changed word", place, code, i)
			order, code := impl.CompareGrammars(g, h)
			is(t, "CompareGrammars of a changed word", fmt.Sprint(strings.Compare(x, y), " 0"), order, code)
			yes, code := impl.SamePart(g, h, i+1, i+1, n-i-1)
			saysWhether(t, "SamePart behind the changed letter", yes, code, true)
		}
	}
}
