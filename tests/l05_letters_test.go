package tests

import (
	"fmt"
	"strings"
	"testing"

	"loop.example/g01133/impl"
)

func TestPromise11Example(t *testing.T) {
	g := gram(example)
	is(t, "PairCounts", "[[1 2 0 0] [1 0 0 0] [0 0 0 0] [0 0 0 0]] 0", list(impl.PairCounts(g))...)
	is(t, "RunCount", "4 0", list(impl.RunCount(g))...)
	is(t, "LongestRuns", "[2 1 0 0] 0", list(impl.LongestRuns(g))...)
	for l, want := range [][]string{{"0", "1", "1", "2", "3", "3"}, {"0", "0", "1", "1", "1", "2"}, {"0", "0", "0", "0", "0", "0"}, {"0", "0", "0", "0", "0", "0"}} {
		for n, rank := range want {
			is(t, fmt.Sprint("RankOf ", each()[l], " in ", n), rank+" 0", list(impl.RankOf(g, each()[l], int64(n)))...)
		}
	}
	for l, want := range [][]string{{"0 0", "2 0", "3 0", "0 6"}, {"1 0", "4 0", "0 6"}, {"0 6"}, {"0 6"}} {
		for k, place := range want {
			is(t, fmt.Sprint("SelectOf ", each()[l], " for ", k), place, list(impl.SelectOf(g, each()[l], int64(k)))...)
		}
	}
}

// sparse goes through the numbers from 0 to n: through all of them if there are few, or else some and the last ones.
func sparse(n int) []int64 {
	some := []int64{}
	for k := range n + 1 {
		if k%(1+n/25) == 0 || n-k < 3 {
			some = append(some, int64(k))
		}
	}
	return some
}

// lettersLikePlain holds letters, pairs and runs of a grammar against its short word.
func lettersLikePlain(t *testing.T, g impl.Grammar, w string) {
	t.Helper()
	name := fmt.Sprintf("%.60q, of %.80q", w, textOf(g))
	runs, longest := runsBy(w)
	is(t, "PairCounts of "+name, fmt.Sprint(pairsBy(w), " 0"), list(impl.PairCounts(g))...)
	is(t, "RunCount of "+name, fmt.Sprint(runs, " 0"), list(impl.RunCount(g))...)
	is(t, "LongestRuns of "+name, fmt.Sprint(longest, " 0"), list(impl.LongestRuns(g))...)
	for _, x := range each() {
		places := placesBy(x, w)
		for _, n := range sparse(len(w)) {
			rank, code := impl.RankOf(g, x, n)
			counts(t, fmt.Sprint("RankOf ", x, " in ", n, " of ", name), rank, code, int64(strings.Count(w[:n], x)))
		}
		for _, k := range sparse(len(places)) {
			want := int64(-impl.ErrNotFound)
			if int(k) < len(places) {
				want = places[k]
			}
			place, code := impl.SelectOf(g, x, k)
			counts(t, fmt.Sprint("SelectOf ", x, " for ", k, " of ", name), place, code, want)
		}
		for _, n := range []int64{least, -1, int64(len(w)) + 1, impl.MaxLength, greatest} {
			rank, code := impl.RankOf(g, x, n)
			counts(t, "RankOf outside of "+name, rank, code, -impl.ErrRange)
			place, code := impl.SelectOf(g, x, min(n, -1))
			counts(t, "SelectOf for a negative time in "+name, place, code, -impl.ErrRange)
			place, code = impl.SelectOf(g, x, max(n, int64(len(places))))
			counts(t, "SelectOf too often in "+name, place, code, -impl.ErrNotFound)
		}
	}
}

func TestPromise11SmallGrammars(t *testing.T) {
	for _, g := range someGrammars() {
		lettersLikePlain(t, g, wordOf(g))
	}
	for _, g := range []impl.Grammar{chain(400), mixedGrammar(400, 1900, 36), mixedGrammar(400, 1900, 8), mixedGrammar(120, 1900, 21), doubled(gram(example), 8)} {
		lettersLikePlain(t, g, wordOf(g))
	}
}

// TestPromise11Plain counts in different grammars of the same words.
func TestPromise11Plain(t *testing.T) {
	words := append(wordsUpTo("abcd", 4)[1:], wordsUpTo("ab", 7)[1:]...)
	words = append(words, strings.Repeat("a", 60), strings.Repeat("ab", 40), strings.Repeat("aab", 22), strings.Repeat("abcd", 20), "aaabbbbaaaaaccd"+strings.Repeat("d", 30), mixedWord("ab", 90, 5), mixedWord("abcd", 90, 6))
	for k, w := range words {
		ways := plainWays(w)
		for l, g := range ways {
			if len(w) > 4 || l == k%len(ways) {
				lettersLikePlain(t, g, w)
			}
		}
	}
}

// TestPromise11Empty counts nothing in the grammar without rules.
func TestPromise11Empty(t *testing.T) {
	for _, g := range []impl.Grammar{{}, {Rules: []impl.Rule{}}} {
		lettersLikePlain(t, g, "")
		is(t, "PairCounts of nothing", "[[0 0 0 0] [0 0 0 0] [0 0 0 0] [0 0 0 0]] 0", list(impl.PairCounts(g))...)
		is(t, "RunCount of nothing", "0 0", list(impl.RunCount(g))...)
		is(t, "LongestRuns of nothing", "[0 0 0 0] 0", list(impl.LongestRuns(g))...)
	}
}

// TestPromise11Runs joins runs that go on behind the place of the join.
func TestPromise11Runs(t *testing.T) {
	const n = impl.MaxLength
	for _, c := range []struct {
		w    pieces
		runs int64
		want []int64
	}{
		{pieces{{"a", n}}, 1, []int64{n, 0, 0, 0}},
		{pieces{{"ab", n / 2}}, n, []int64{1, 1, 0, 0}},
		{pieces{{"aab", n / 4}, {"a", n / 4}}, n/4*2 + 1, []int64{n / 4, 1, 0, 0}},
		{pieces{{"baa", n / 4}, {"a", n / 4}}, n / 4 * 2, []int64{n/4 + 2, 1, 0, 0}},
		{pieces{{"a", n / 4}, {"aab", n / 4}}, n / 4 * 2, []int64{n/4 + 2, 1, 0, 0}},
		{pieces{{"baa", 7}, {"a", n / 4}, {"aac", 9}}, 31, []int64{n/4 + 4, 1, 1, 0}},
		{pieces{{"d", n / 5}, {"d", n / 5}, {"c", 1}, {"d", n/5*2 + 1}}, 3, []int64{0, 0, 1, n/5*2 + 1}},
		{pieces{{"abba", n / 4}}, n/2 + 1, []int64{2, 2, 0, 0}},
		{pieces{{"abcddcba", 3}}, 19, []int64{2, 1, 1, 2}},
	} {
		for _, g := range grammarsOf(t, c.w) {
			is(t, "RunCount of "+c.w.String(), fmt.Sprint(c.runs, " 0"), list(impl.RunCount(g))...)
			is(t, "LongestRuns of "+c.w.String(), fmt.Sprint(c.want, " 0"), list(impl.LongestRuns(g))...)
		}
	}
}

// TestPromise11LongWords counts in words of up to MaxLength letters that are put together in different ways.
func TestPromise11LongWords(t *testing.T) {
	for _, w := range hugeWords() {
		pairs := w.pairs()
		runs := int64(1)
		for k, row := range pairs {
			for l, n := range row {
				if k != l {
					runs += n
				}
			}
		}
		for _, g := range grammarsOf(t, w) {
			is(t, "PairCounts of "+w.String(), fmt.Sprint(pairs, " 0"), list(impl.PairCounts(g))...)
			is(t, "RunCount of "+w.String(), fmt.Sprint(runs, " 0"), list(impl.RunCount(g))...)
			is(t, "LongestRuns of "+w.String(), fmt.Sprint(w.longest(), " 0"), list(impl.LongestRuns(g))...)
			for _, x := range each() {
				ranksLikePieces(t, g, w, x)
			}
		}
	}
}

// ranksLikePieces holds ranks and places of a letter against those in a long word.
func ranksLikePieces(t *testing.T, g impl.Grammar, w pieces, x string) {
	t.Helper()
	name := x + " in " + w.String()
	for _, n := range w.somePlaces() {
		rank, code := impl.RankOf(g, x, n)
		counts(t, fmt.Sprint("RankOf ", n, " of ", name), rank, code, w.start(n).count(x))
	}
	all := w.count(x)
	for _, k := range []int64{0, 1, 2, all / 3, all / 2, all/2 + 1, all - 2, all - 1} {
		if k < 0 || k >= all {
			continue
		}
		place, code := impl.SelectOf(g, x, k)
		counts(t, fmt.Sprint("SelectOf ", k, " of ", name), place, code, w.place(x, k))
	}
	for _, k := range []int64{all, all + 1, impl.MaxLength, greatest} {
		place, code := impl.SelectOf(g, x, k)
		counts(t, fmt.Sprint("SelectOf ", k, " of ", name), place, code, -impl.ErrNotFound)
	}
	for _, n := range []int64{-1, w.length() + 1, greatest} {
		rank, code := impl.RankOf(g, x, n)
		counts(t, fmt.Sprint("RankOf ", n, " of ", name), rank, code, -impl.ErrRange)
	}
}

// TestPromise11Undo checks that ranks and places undo each other in long words without an evident order.
func TestPromise11Undo(t *testing.T) {
	for _, g := range manyGrammars() {
		n, _ := impl.LengthOf(g)
		totals, _ := impl.LetterCounts(g)
		for l, x := range each() {
			all, code := impl.RankOf(g, x, n)
			counts(t, "RankOf the whole word", all, code, totals[l])
			for _, k := range []int64{0, 1, all / 7, all / 3, all / 2, all - 2, all - 1} {
				if k < 0 || k >= all {
					continue
				}
				place, code := impl.SelectOf(g, x, k)
				at, _ := impl.LetterAt(g, place)
				is(t, "the letter at a place that SelectOf has found", x+" 0", at, code)
				rank, code := impl.RankOf(g, x, place)
				counts(t, "RankOf what SelectOf has found", rank, code, k)
				rank, code = impl.RankOf(g, x, place+1)
				counts(t, "RankOf behind what SelectOf has found", rank, code, k+1)
			}
			for _, i := range []int64{0, 1, n / 9, n / 3, n / 2, n - 2, n - 1} {
				rank, _ := impl.RankOf(g, x, max(0, i))
				want, code := impl.NextPattern(g, x, max(0, i))
				place, same := impl.SelectOf(g, x, rank)
				is(t, "SelectOf what RankOf has found", fmt.Sprint(want, code), place, same)
			}
		}
	}
}

// TestPromise11AddUp adds up what is counted in both parts of long words.
func TestPromise11AddUp(t *testing.T) {
	for _, g := range manyGrammars() {
		// Fewer rules, so that there are not too many when it is cut.
		g = rules(g.Rules[:min(250, len(g.Rules))]...)
		n, _ := impl.LengthOf(g)
		runs, _ := impl.RunCount(g)
		pairs, _ := impl.PairCounts(g)
		longest, _ := impl.LongestRuns(g)
		for _, i := range []int64{1, n / 3, n / 2, n - 1} {
			one, two := partOf(t, g, 0, i), partOf(t, g, i, n)
			around, _ := impl.UnpackPart(g, i-1, i+1)
			want, same := pairsBy(around), int64(0)
			if around[0] == around[1] {
				same = 1
			}
			first, _ := impl.PairCounts(one)
			behind, _ := impl.PairCounts(two)
			for k := range want {
				for l := range want[k] {
					want[k][l] += first[k][l] + behind[k][l]
				}
			}
			is(t, "PairCounts of two parts", fmt.Sprint(want), pairs)
			left, _ := impl.RunCount(one)
			right, _ := impl.RunCount(two)
			is(t, "RunCount of two parts", fmt.Sprint(left+right-same), runs)
			parts, _ := impl.LongestRuns(one)
			others, _ := impl.LongestRuns(two)
			for l, x := range each() {
				a, _ := impl.RankOf(one, x, i)
				b, _ := impl.RankOf(two, x, n-i)
				c, _ := impl.RankOf(g, x, n)
				is(t, "RankOf two parts", fmt.Sprint(a+b), c)
				if longest[l] < max(parts[l], others[l]) || longest[l] > parts[l]+others[l] {
					t.Errorf("LongestRuns of two parts: got %d, of parts with %d and %d", longest[l], parts[l], others[l])
				}
			}
		}
	}
}

// TestPromise11NoLetter gives texts that are no letters, in words in which they could be looked for.
func TestPromise11NoLetter(t *testing.T) {
	for _, x := range noLetters() {
		for _, g := range []impl.Grammar{{}, gram(example), fullGrammar()} {
			for _, n := range []int64{least, -1, 0, 2, greatest} {
				failsWith(t, "RankOf no letter", list(impl.RankOf(g, x, n)), impl.ErrInvalid)
				failsWith(t, "SelectOf no letter", list(impl.SelectOf(g, x, n)), impl.ErrInvalid)
			}
		}
	}
}

// noLetters returns texts that are no letters, for different reasons.
func noLetters() []string {
	return []string{"", "e", "A", "`", "ab", "aa", "abcd", " ", "a ", " a", "1", "\x00", "ä", "\xff", strings.Repeat("a", 1000000)}
}

// TestPromise11Full checks the numbers of words of exactly MaxLength letters.
func TestPromise11Full(t *testing.T) {
	const n = impl.MaxLength
	g := fullGrammar()
	is(t, "PairCounts", fmt.Sprint([][]int64{{0, n / 2, 0, 0}, {n/2 - 1, 0, 0, 0}, {0, 0, 0, 0}, {0, 0, 0, 0}}, " 0"), list(impl.PairCounts(g))...)
	is(t, "RunCount", fmt.Sprint(n, " 0"), list(impl.RunCount(g))...)
	is(t, "the last place", fmt.Sprint(n-1, " 0"), list(impl.SelectOf(g, "b", n/2-1))...)
	is(t, "one place more", "0 6", list(impl.SelectOf(g, "b", n/2))...)
	is(t, "all letters", fmt.Sprint(n/2, " 0"), list(impl.RankOf(g, "b", n))...)
	is(t, "all letters but one", fmt.Sprint(n/2-1, " 0"), list(impl.RankOf(g, "b", n-1))...)
	is(t, "one letter more", "0 2", list(impl.RankOf(g, "b", n+1))...)
	is(t, "a letter that does not occur", "0 0", list(impl.RankOf(g, "c", n))...)
	is(t, "no place of it", "0 6", list(impl.SelectOf(g, "c", 0))...)
	same := doubled(rules(letter("d")), 49)
	is(t, "one run", "1 0", list(impl.RunCount(same))...)
	is(t, "its length", fmt.Sprint([]int64{0, 0, 0, 1 << 49}, " 0"), list(impl.LongestRuns(same))...)
	is(t, "its pairs", fmt.Sprint([][]int64{{0, 0, 0, 0}, {0, 0, 0, 0}, {0, 0, 0, 0}, {0, 0, 0, 1<<49 - 1}}, " 0"), list(impl.PairCounts(same))...)
}
