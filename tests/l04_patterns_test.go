package tests

import (
	"fmt"
	"strings"
	"testing"

	"loop.example/g01133/impl"
)

// placesBy returns all places of a short word at which a pattern begins.
func placesBy(p, w string) []int64 {
	places := []int64{}
	for i := range len(w) {
		if strings.HasPrefix(w[i:], p) {
			places = append(places, int64(i))
		}
	}
	return places
}

// begins reports whether a pattern begins at a place of a long word.
func (w pieces) begins(p string, i int64) bool {
	for k := range int64(len(p)) {
		if w.letter(i+k) != p[k:k+1] {
			return false
		}
	}
	return true
}

// countBy returns how often a pattern begins in a long word: where it is inside of a piece as often
// as in one word of it, and letter by letter where it goes on behind the piece.
func countBy(w pieces, p string) int64 {
	count, start := int64(0), int64(0)
	here := func(i, places, times int64) {
		for k := range places {
			if w.begins(p, i+k) {
				count += times
			}
		}
	}
	for _, q := range w {
		size := int64(len(q.word))
		end := start + size*q.times
		inside := max(0, end-start-int64(len(p))+1)
		if inside >= size {
			here(start, size, inside/size)
		}
		here(start, inside%size, 1)
		here(start+inside, end-start-inside, 1)
		start = end
	}
	return count
}

// nextBy returns the first place of a long word from i on at which a pattern begins, -ErrNotFound if there
// is none: it passes over what is left of a piece if the pattern does not begin in a whole word of it.
func nextBy(w pieces, p string, i int64) int64 {
	for i < w.length() {
		word, _, left := w.at(i)
		end := i + left
		for range min(left, int64(len(word))) {
			if w.begins(p, i) {
				return i
			}
			i++
		}
		if i < end {
			i = max(i, end-int64(len(p))+1)
		}
	}
	return -impl.ErrNotFound
}

// meetsLikePlain holds what is found of a pattern in a grammar against its short word.
func meetsLikePlain(t *testing.T, g impl.Grammar, w, p string) {
	t.Helper()
	name := fmt.Sprintf("%q in %.60q, of %.80q", p, w, textOf(g))
	places := placesBy(p, w)
	if known, code := impl.OccurrencesOf(p, w); code != impl.OK || fmt.Sprint(known) != fmt.Sprint(places) {
		t.Errorf("OccurrencesOf says something else of %s", name)
	}
	count, code := impl.CountPattern(g, p)
	counts(t, "CountPattern of "+name, count, code, int64(len(places)))
	for k, want := range places {
		// All of few times, some of many.
		if k%(1+len(places)/30) > 0 && len(places)-k > 2 {
			continue
		}
		place, code := impl.PatternAt(g, p, int64(k))
		counts(t, fmt.Sprint("PatternAt ", k, " of ", name), place, code, want)
	}
	for _, k := range []int64{int64(len(places)), int64(len(places)) + 1, impl.MaxLength, greatest} {
		place, code := impl.PatternAt(g, p, k)
		counts(t, "PatternAt of "+name, place, code, -impl.ErrNotFound)
	}
	n, k := int64(len(w)), 0
	for i := range n + 1 {
		for k < len(places) && places[k] < i {
			k++
		}
		if i%(1+n/30) > 0 && n-i > 25 {
			continue
		}
		want := int64(-impl.ErrNotFound)
		if k < len(places) {
			want = places[k]
		}
		place, code := impl.NextPattern(g, p, i)
		counts(t, fmt.Sprint("NextPattern from ", i, " of ", name), place, code, want)
	}
	for _, i := range []int64{least, -1, n + 1, greatest} {
		place, code := impl.NextPattern(g, p, i)
		counts(t, "NextPattern from no place", place, code, -impl.ErrRange)
		place, code = impl.PatternAt(g, p, min(i, -1))
		counts(t, "PatternAt for a negative time", place, code, -impl.ErrRange)
	}
}

// patternsIn returns patterns of a short word: some of its own parts, and some others.
func patternsIn(w string, seed int) []string {
	patterns := []string{"ab", "aa", "ba", "aba", "abab", "cd", "d"}
	for _, length := range []int{1, 2, 3, 5, 8, 13, 20} {
		if length <= len(w) {
			i := seed * 31 % (len(w) - length + 1)
			patterns = append(patterns, w[i:i+length], w[:length], w[len(w)-length:])
		}
	}
	return patterns
}

func TestPromise9SmallGrammars(t *testing.T) {
	for k, g := range someGrammars() {
		w := wordOf(g)
		patterns := patternsIn(w, k)
		for l := range 2 {
			meetsLikePlain(t, g, w, patterns[(k+l*5)%len(patterns)])
		}
	}
	for _, w := range []string{"abaab", "aaaaaaa", "abababab", "abcdabcd", strings.Repeat("a", 60), strings.Repeat("ab", 40), strings.Repeat("aab", 22), mixedWord("ab", 90, 5)} {
		ways := plainWays(w)
		for k, p := range append(wordsUpTo("ab", 3)[1:], patternsIn(w, 7)...) {
			meetsLikePlain(t, ways[k%len(ways)], w, p)
		}
	}
	for k, g := range []impl.Grammar{chain(400), mixedGrammar(400, 1900, 36), mixedGrammar(400, 1900, 8), mixedGrammar(120, 1900, 21)} {
		w := wordOf(g)
		for l, p := range patternsIn(w, 9) {
			if l%2 == k%2 {
				meetsLikePlain(t, g, w, p)
			}
		}
	}
}

// TestPromise9Empty checks that nothing is found in the grammar without rules, and words that are too short.
func TestPromise9Empty(t *testing.T) {
	for _, p := range somePatterns() {
		meetsLikePlain(t, impl.Grammar{}, "", p)
		meetsLikePlain(t, gram("a\n"), "a", p)
		meetsLikePlain(t, plainBy(p), p, p)
		meetsLikePlain(t, plainBy(p+p), p+p, p)
	}
}

// TestPromise9Lengths checks patterns of 1 letter, of MaxPattern letters and of one more, and empty ones.
func TestPromise9Lengths(t *testing.T) {
	g := plainBy(strings.Repeat("a", 30))
	for length := range 30 {
		p := strings.Repeat("a", length)
		want := int64(30 - length + 1)
		if length == 0 {
			want = -impl.ErrState
		} else if length > 20 {
			want = -impl.ErrLimit
		}
		count, code := impl.CountPattern(g, p)
		counts(t, fmt.Sprint("CountPattern of ", length), count, code, want)
		place, code := impl.NextPattern(g, p, 3)
		counts(t, fmt.Sprint("NextPattern of ", length), place, code, min(3, want))
		place, code = impl.PatternAt(g, p, 2)
		counts(t, fmt.Sprint("PatternAt of ", length), place, code, min(2, want))
		a, code := impl.PatternAuto(p)
		if want < 0 {
			failsWith(t, fmt.Sprint("PatternAuto of ", length), list(a, code), -want)
		} else if code != impl.OK || a.States != int64(length)+1 || !impl.ValidAuto(a) {
			t.Errorf("PatternAuto of %d: got %v and the code %d", length, a, code)
		}
	}
}

// TestPromise9Autos holds the states of the automaton of a pattern against the ends of words.
func TestPromise9Autos(t *testing.T) {
	words := append(wordsUpTo("abcd", 4), strings.Repeat("a", 50), strings.Repeat("abaab", 12), mixedWord("ab", 300, 3), mixedWord("abcd", 300, 3))
	for _, p := range append(wordsUpTo("abc", 4)[1:], append(somePatterns(), "aabaaab", "abacabadabacaba", "aaaaaaaaaaaaaaaaaaab", "abababababababababac")...) {
		a, code := impl.PatternAuto(p)
		n := int64(len(p))
		is(t, "PatternAuto of "+p, fmt.Sprintf("%d 0 [%d] true 0", n+1, n), a.States, a.Start, a.Finals, impl.ValidAuto(a), code)
		if code != impl.OK || !impl.ValidAuto(a) {
			continue
		}
		for _, w := range append(words, p, p+p, p[1:]+p+"a", "b"+p[:len(p)-1], p+p[:len(p)/2]+p) {
			for end, s := range statesBehind(a.Next, 0, w) {
				longest := min(end, len(p))
				for !strings.HasSuffix(w[:end], p[:longest]) {
					longest--
				}
				if s != int64(longest) {
					t.Errorf("PatternAuto of %s is in %d behind %s, not in %d", p, s, w[:end], longest)
				}
			}
		}
	}
}

// meetsLikePieces holds what is found of a pattern in a grammar of a long word against its pieces.
func meetsLikePieces(t *testing.T, g impl.Grammar, w pieces, p string) {
	t.Helper()
	name := fmt.Sprintf("%q in %.90s", p, w)
	all := countBy(w, p)
	count, code := impl.CountPattern(g, p)
	counts(t, "CountPattern of "+name, count, code, all)
	for _, i := range w.somePlaces() {
		for _, i := range []int64{i, i - int64(len(p)), i - int64(len(p)) + 1} {
			if i >= 0 {
				place, code := impl.NextPattern(g, p, i)
				counts(t, fmt.Sprint("NextPattern from ", i, " of ", name), place, code, nextBy(w, p, i))
			}
		}
	}
	place, code := impl.NextPattern(g, p, w.length()+1)
	counts(t, "NextPattern behind the end of "+name, place, code, -impl.ErrRange)
	for _, k := range []int64{0, 1, 2, all / 3, all / 2, all/2 + 1, all - 2, all - 1} {
		if k < 0 || k >= all {
			continue
		}
		// It begins there, and so often ahead of it.
		place, code := impl.PatternAt(g, p, k)
		if code != impl.OK || !w.begins(p, place) || countBy(w.start(place+int64(len(p))), p) != k+1 {
			t.Errorf("PatternAt %d of %s: got %d and the code %d", k, name, place, code)
		}
		next, code := impl.NextPattern(g, p, place)
		counts(t, "NextPattern from PatternAt of "+name, next, code, place)
	}
	for _, k := range []int64{all, all + 1, greatest} {
		place, code := impl.PatternAt(g, p, k)
		counts(t, "PatternAt of "+name, place, code, -impl.ErrNotFound)
	}
}

// longPatterns returns patterns that are met in a long word, at its ends and where its pieces meet, and some others.
func longPatterns(w pieces) []string {
	patterns := []string{"a", "b", "ab", "ba", "aa", "aba", strings.Repeat("a", 20), strings.Repeat("ab", 10), "abaababaabaababaab"}
	for _, i := range w.somePlaces() {
		for _, length := range []int64{2, 7, 20} {
			var p strings.Builder
			for k := range length {
				p.WriteString(w.letter(max(0, i-length/2) + k))
			}
			if p.Len() > 0 {
				patterns = append(patterns, p.String())
			}
		}
	}
	return patterns
}

func TestPromise9LongWords(t *testing.T) {
	for k, w := range hugeWords() {
		ways := grammarsOf(t, w)
		for l, p := range longPatterns(w) {
			meetsLikePieces(t, ways[(k+l)%len(ways)], w, p)
		}
	}
}

// TestPromise9AcrossCuts counts patterns in both parts of long words, and those that begin in one part and end in the other one.
func TestPromise9AcrossCuts(t *testing.T) {
	for k, g := range manyGrammars() {
		// Fewer rules, so that there are not too many when it is cut.
		g = rules(g.Rules[:min(250, len(g.Rules))]...)
		n, _ := impl.LengthOf(g)
		for l, i := range []int64{1, n / 3, n / 2, n - 1} {
			// What is around the cut has patterns that are met.
			from, to := max(0, i-10), min(n, i+10)
			around, _ := impl.UnpackPart(g, from, to)
			for _, p := range []string{around, around[:min(3, len(around))], around[len(around)/2-1 : len(around)/2+1], somePatterns()[(k+l)%11]} {
				name := fmt.Sprintf("%q across %d of %d", p, i, n)
				one, _ := impl.CountPattern(partOf(t, g, 0, i), p)
				two, _ := impl.CountPattern(partOf(t, g, i, n), p)
				size := int64(len(p))
				left, right := max(0, i-size+1), min(n, i+size-1)
				middle, _ := impl.UnpackPart(g, left, right)
				all, code := impl.CountPattern(g, p)
				counts(t, name, all, code, one+two+int64(len(placesBy(p, middle))))
				if p == around {
					place, code := impl.NextPattern(g, p, from)
					counts(t, name, place, code, from)
					at, _ := impl.CountPattern(partOf(t, g, 0, to), p)
					place, code = impl.PatternAt(g, p, at-1)
					counts(t, name, place, code, from)
				}
			}
		}
	}
}

// TestPromise9LastPlace looks for a pattern at the very end of a word of MaxLength letters.
func TestPromise9LastPlace(t *testing.T) {
	w := pieces{{"a", impl.MaxLength - 20}, {"abababababababababab", 1}}
	for _, g := range grammarsOf(t, w) {
		for _, p := range []string{"abababababababababab", "ababababababababab", "aab", "bab", "b", "aabababababababababa"} {
			meetsLikePieces(t, g, w, p)
		}
	}
	count, code := impl.CountPattern(doubled(rules(letter("d")), 49), strings.Repeat("d", 20))
	counts(t, "places of 20 letters in 2 to the power 49", count, code, 1<<49-19)
}
