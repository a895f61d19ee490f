package tests

import (
	"fmt"
	"math/big"
	"slices"
	"strings"
	"testing"

	"loop.example/g01133/impl"
)

func TestPromise12Example(t *testing.T) {
	g := gram(example)
	is(t, "ScatteredCount", "4 0", list(impl.ScatteredCount(g, "ab", 100))...)
	is(t, "ScatteredParts", "[[1 3 4] [0 1 2] [0 0 1]] 0", list(impl.ScatteredParts(g, "ab", 100))...)
	is(t, "EmbedFirst", "[1 4] 0", list(impl.EmbedFirst(g, "bb"))...)
	is(t, "EmbedFirst", "[0 1] 0", list(impl.EmbedFirst(g, "ab"))...)
	is(t, "EmbedLast", "[3 4] 0", list(impl.EmbedLast(g, "ab"))...)
	is(t, "EmbedLast", "[0 2 3] 0", list(impl.EmbedLast(g, "aaa"))...)
	is(t, "EmbeddedStart", "2 0", list(impl.EmbeddedStart(g, "bba"))...)
	is(t, "SparePower", "2 0", list(impl.SparePower(g, "ab"))...)
	is(t, "SparePower", "3 0", list(impl.SparePower(g, "a"))...)
	is(t, "SparePower", "0 0", list(impl.SparePower(g, "c"))...)
}

// embedsAt checks the first and the last places of p, which is not scattered if there are fewer than its letters.
func embedsAt(t *testing.T, name string, g impl.Grammar, p string, first, last []int64) {
	t.Helper()
	start, code := impl.EmbeddedStart(g, p)
	counts(t, "EmbeddedStart of "+name, start, code, int64(len(first)))
	one, code := impl.EmbedFirst(g, p)
	two, same := impl.EmbedLast(g, p)
	if len(first) < len(p) {
		failsWith(t, "EmbedFirst of "+name, list(one, code), impl.ErrNotFound)
		failsWith(t, "EmbedLast of "+name, list(two, same), impl.ErrNotFound)
	} else {
		is(t, "EmbedFirst of "+name, fmt.Sprint(first, " 0"), one, code)
		is(t, "EmbedLast of "+name, fmt.Sprint(last, " 0"), two, same)
	}
}

// placesLikePlain holds the embeddings of p in a grammar against those in its short word.
func placesLikePlain(t *testing.T, g impl.Grammar, w, p string) {
	t.Helper()
	name := fmt.Sprintf("%.60q in %.60q, of %.80q", p, w, textOf(g))
	first, last := firstBy(w, p), lastBy(w, p)
	embedsAt(t, name, g, p, first, last)
	power, code := impl.SparePower(g, p)
	if p == "" {
		failsWith(t, "SparePower of "+name, list(power, code), impl.ErrState)
	} else {
		counts(t, "SparePower of "+name, power, code, passedBy(w, p, 0)/int64(len(p)))
	}
}

// scattersLikePlain holds how often p is scattered in a grammar against how often it is in its short word.
func scattersLikePlain(t *testing.T, g impl.Grammar, w, p string, modulus int64) {
	t.Helper()
	name := fmt.Sprintf("%q in %.60q, of %.80q, and %d", p, w, textOf(g), modulus)
	ways := scatteredBy(w, p)
	count, code := impl.ScatteredCount(g, p, modulus)
	counts(t, "ScatteredCount of "+name, count, code, restOf(ways[0][len(p)], modulus))
	is(t, "ScatteredParts of "+name, fmt.Sprint(ways.rest(modulus), " 0"), list(impl.ScatteredParts(g, p, modulus))...)
}

// somethingScattered returns words of at most so many letters, some of which are scattered in a short word.
func somethingScattered(w string, length, seed int) []string {
	next := mixing(uint32(seed))
	var some strings.Builder
	for k := range len(w) {
		if some.Len() < length && next(1+len(w)/length) == 0 {
			some.WriteByte(w[k])
		}
	}
	return []string{some.String(), mixedWord("ab", next(length+1), uint32(seed)), mixedWord("abcd", next(length+1), uint32(seed+1)), "", "ab", "ba", "aab", "abcd", "d"}
}

func TestPromise12SmallGrammars(t *testing.T) {
	moduli := someModuli()
	for k, g := range someGrammars() {
		w := wordOf(g)
		for l, p := range somethingScattered(w, impl.MaxScattered, k) {
			scattersLikePlain(t, g, w, p, moduli[(k+l)%len(moduli)])
			placesLikePlain(t, g, w, p)
		}
		placesLikePlain(t, g, w, w)
		placesLikePlain(t, g, w, w+"a")
		for _, p := range somethingScattered(w, 40, k) {
			placesLikePlain(t, g, w, p)
		}
	}
	for k, g := range []impl.Grammar{chain(400), mixedGrammar(400, 1900, 36), mixedGrammar(400, 1900, 8), mixedGrammar(120, 1900, 21), doubled(gram(example), 8)} {
		w := wordOf(g)
		for _, p := range append(somethingScattered(w, 1000, k), w, w+"d", "c"+w) {
			placesLikePlain(t, g, w, p)
		}
		for _, p := range somethingScattered(w, impl.MaxScattered, k+7) {
			for _, modulus := range moduli {
				scattersLikePlain(t, g, w, p, modulus)
			}
		}
	}
}

// TestPromise12All holds counts, first and last places against the list of all embeddings.
func TestPromise12All(t *testing.T) {
	words := append(wordsUpTo("ab", 6)[1:], "abcdabcd", "aabbccdd", "dcbaabcd", "abacabadabac", "aaaaaaaaa", "cacacacaca")
	for k, w := range words {
		g := plainWays(w)[k%3]
		for _, p := range append(wordsUpTo("ab", 3), "abc", "acd", "aaaa", "cca", "acac", "dd", "abcd", "bacd", "ababa", "aaaaaaaa") {
			name := p + " in " + w
			all := embeddingsBy(w, p)
			count, code := impl.ScatteredCount(g, p, impl.MaxModulus)
			counts(t, "ScatteredCount of "+name, count, code, int64(len(all)))
			if len(all) == 0 {
				failsWith(t, "EmbedFirst of "+name, list(impl.EmbedFirst(g, p)), impl.ErrNotFound)
				failsWith(t, "EmbedLast of "+name, list(impl.EmbedLast(g, p)), impl.ErrNotFound)
				continue
			}
			first, last := slices.Clone(all[0]), slices.Clone(all[0])
			for _, places := range all {
				for i, place := range places {
					first[i], last[i] = min(first[i], place), max(last[i], place)
				}
			}
			embedsAt(t, name, g, p, first, last)
		}
	}
}

// TestPromise12Empty looks for words in the grammar without rules, and for the empty word.
func TestPromise12Empty(t *testing.T) {
	for _, g := range []impl.Grammar{{}, {Rules: []impl.Rule{}}, gram("a\n"), fullGrammar()} {
		for _, modulus := range someModuli() {
			one := min(1, modulus-1)
			is(t, "ScatteredCount of nothing", fmt.Sprint(one, " 0"), list(impl.ScatteredCount(g, "", modulus))...)
			is(t, "ScatteredParts of nothing", fmt.Sprintf("[[%d]] 0", one), list(impl.ScatteredParts(g, "", modulus))...)
		}
		is(t, "EmbedFirst of nothing", "[] 0", list(impl.EmbedFirst(g, ""))...)
		is(t, "EmbedLast of nothing", "[] 0", list(impl.EmbedLast(g, ""))...)
		is(t, "EmbeddedStart of nothing", "0 0", list(impl.EmbeddedStart(g, ""))...)
		failsWith(t, "SparePower of nothing", list(impl.SparePower(g, "")), impl.ErrState)
	}
	for _, p := range append(longWords(), "a", "d", "abc", "abcdabcd") {
		placesLikePlain(t, impl.Grammar{}, "", p)
		if len(p) <= impl.MaxScattered {
			scattersLikePlain(t, impl.Grammar{}, "", p, 7)
			scattersLikePlain(t, impl.Grammar{}, "", p, 1)
		}
	}
}

// TestPromise12Lengths checks words of MaxScattered letters, and of more, where there is a limit and where there is none.
func TestPromise12Lengths(t *testing.T) {
	g, w := plainBy(strings.Repeat("ab", 9)), strings.Repeat("ab", 9)
	for length := range 19 {
		p := w[:length]
		if length <= 8 {
			scattersLikePlain(t, g, w, p, 1000)
		} else {
			for _, modulus := range []int64{1, 1000, impl.MaxModulus} {
				failsWith(t, fmt.Sprint("ScatteredCount of ", length), list(impl.ScatteredCount(g, p, modulus)), impl.ErrLimit)
				failsWith(t, fmt.Sprint("ScatteredParts of ", length), list(impl.ScatteredParts(g, p, modulus)), impl.ErrLimit)
			}
		}
		placesLikePlain(t, g, w, p)
	}
	for _, p := range longWords() {
		failsWith(t, "ScatteredCount of a long word", list(impl.ScatteredCount(g, p, 10)), impl.ErrLimit)
		failsWith(t, "ScatteredParts of a long word", list(impl.ScatteredParts(g, p, 10)), impl.ErrLimit)
		placesLikePlain(t, g, w, p)
	}
}

// TestPromise12Moduli checks moduli at both ends and just outside of them.
func TestPromise12Moduli(t *testing.T) {
	g := fullGrammar()
	for _, modulus := range []int64{least, -impl.MaxModulus, -1, 0, impl.MaxModulus + 1, 1 << 32, greatest} {
		for _, p := range []string{"", "ab", "abababab", "ababababa"} {
			failsWith(t, fmt.Sprint("ScatteredCount with ", modulus), list(impl.ScatteredCount(g, p, modulus)), impl.ErrRange)
			failsWith(t, fmt.Sprint("ScatteredParts with ", modulus), list(impl.ScatteredParts(g, p, modulus)), impl.ErrRange)
			failsWith(t, fmt.Sprint("ScatteredCount in nothing with ", modulus), list(impl.ScatteredCount(impl.Grammar{}, p, modulus)), impl.ErrRange)
		}
	}
	is(t, "everything with the modulus 1", "[[0 0 0] [0 0 0] [0 0 0]] 0", list(impl.ScatteredParts(g, "ab", 1))...)
	is(t, "a letter with the modulus 1", "[[0 0] [0 0]] 0", list(impl.ScatteredParts(gram("a\n"), "a", 1))...)
	// Sums of products that are nearly as great as they can be: 10 to the power 9, less 1, in all places.
	ones := doubled(rules(letter("a")), 49)
	n := new(big.Int).Lsh(big.NewInt(1), 49)
	for _, modulus := range []int64{impl.MaxModulus, impl.MaxModulus - 1, 999999937} {
		want := new(big.Int).Binomial(n.Int64(), 8)
		is(t, "8 of 2 to the power 49", fmt.Sprint(restOf(want, modulus), " 0"), list(impl.ScatteredCount(ones, "aaaaaaaa", modulus))...)
	}
}

// longScattered returns words that are looked for in long words, of at most so many letters.
func longScattered(w pieces, length int64) []string {
	p := ""
	for i := range length {
		p += w.letter(w.length() / length * i)
	}
	return []string{p, "", "a", "b", "d", "ab", "ba", "aa", "bca", "abab", "abcd", "aaaaaaaa", "abababab", "babaabab", "dcba", "aab"}
}

// TestPromise12LongWords counts in words of up to MaxLength letters that are put together in different ways.
func TestPromise12LongWords(t *testing.T) {
	moduli := someModuli()
	for k, w := range hugeWords() {
		ways := grammarsOf(t, w)
		for l, p := range longScattered(w, impl.MaxScattered) {
			want := w.scattered(p)
			for i, g := range ways {
				modulus := moduli[(k+l+i)%len(moduli)]
				name := fmt.Sprintf("%q in %.90s and %d", p, w, modulus)
				is(t, "ScatteredParts of "+name, fmt.Sprint(want.rest(modulus), " 0"), list(impl.ScatteredParts(g, p, modulus))...)
				count, code := impl.ScatteredCount(g, p, modulus)
				counts(t, "ScatteredCount of "+name, count, code, restOf(want[0][len(p)], modulus))
			}
		}
	}
}

// TestPromise12LongPlaces looks for first and last places in words of up to MaxLength letters.
func TestPromise12LongPlaces(t *testing.T) {
	for k, w := range hugeWords() {
		ways := grammarsOf(t, w)
		words := append(longScattered(w, 30), strings.Repeat("ab", 20), strings.Repeat("a", 50), mixedWord("abcd", 40, uint32(k)), strings.Repeat("aabdb", 6), strings.Repeat("ab", 800), mixedWord("abc", 2000, 1))
		// As far as the letters of the pieces go, and over all places at which one piece ends.
		across := ""
		for _, p := range w {
			across += p.word + p.word
		}
		for l, p := range append(words, across, across+"a", across+across) {
			embedsLikePieces(t, ways[(k+l)%len(ways)], w, p)
		}
	}
}

// embedsLikePieces holds the embeddings of p in a grammar against those in a long word.
func embedsLikePieces(t *testing.T, g impl.Grammar, w pieces, p string) {
	t.Helper()
	name := fmt.Sprintf("%.60q in %.90s", p, w)
	first := w.first(p)
	embedsAt(t, name, g, p, first, w.last(p))
	if p != "" {
		power, code := impl.SparePower(g, p)
		counts(t, "SparePower of "+name, power, code, w.spare(p))
	}
}

// TestPromise12Powers checks that a word so often as SparePower says is scattered, and that it is not once more.
func TestPromise12Powers(t *testing.T) {
	for k, g := range append(someGrammars(), mixedGrammar(400, 1900, 36), mixedGrammar(120, 1900, 21), chain(400)) {
		for _, p := range somethingScattered(wordOf(g), 7, k) {
			times, code := impl.SparePower(g, p)
			if code != impl.OK {
				continue
			}
			if _, code := impl.EmbedFirst(g, strings.Repeat(p, int(times))); code != impl.OK {
				t.Errorf("%q is not scattered %d times in %.80q", p, times, wordOf(g))
			}
			if _, code := impl.EmbedLast(g, strings.Repeat(p, int(times)+1)); code != impl.ErrNotFound {
				t.Errorf("%q is scattered %d times in %.80q", p, times+1, wordOf(g))
			}
		}
	}
}

// TestPromise12Joins counts in joins by all ways to divide a word, and in turned words.
func TestPromise12Joins(t *testing.T) {
	grammars := manyGrammars()
	moduli := someModuli()
	for k, g := range grammars {
		// Fewer rules, and letters, so that there are not too many when they are joined.
		g = rules(g.Rules[:min(150, len(g.Rules))]...)
		h := grammars[(k+1)%len(grammars)]
		h = rules(h.Rules[:min(120, len(h.Rules))]...)
		m, _ := impl.LengthOf(g)
		n, _ := impl.LengthOf(h)
		g, h = partOf(t, g, 0, m/2), partOf(t, h, n/2, n)
		joined := joinOf(t, g, h)
		turned, _ := impl.TurnGrammar(joined)
		for l, p := range []string{"", "a", "ab", "bad", "abab", "dcbaabcd", "aaaaaaaa", "abababab", "bbabaab", mixedWord("ab", 8, uint32(k))} {
			modulus := moduli[(k+l)%len(moduli)]
			ways := new(big.Int)
			for i := range len(p) + 1 {
				one, _ := impl.ScatteredCount(g, p[:i], modulus)
				two, _ := impl.ScatteredCount(h, p[i:], modulus)
				ways.Add(ways, new(big.Int).Mul(big.NewInt(one), big.NewInt(two)))
			}
			want := fmt.Sprint(restOf(ways, modulus), " 0")
			is(t, "ScatteredCount of "+p+" in a join", want, list(impl.ScatteredCount(joined, p, modulus))...)
			is(t, "ScatteredCount of "+p+" in a turned join", want, list(impl.ScatteredCount(turned, turnedBy(p), modulus))...)
			parts, _ := impl.ScatteredParts(joined, p, modulus)
			others, _ := impl.ScatteredParts(turned, turnedBy(p), modulus)
			for i := range parts {
				for j := i; j <= len(p); j++ {
					count, code := impl.ScatteredCount(joined, p[i:j], modulus)
					counts(t, "ScatteredCount of a part of "+p, count, code, parts[i][j])
					counts(t, "ScatteredParts of "+p+" turned", others[len(p)-j][len(p)-i], impl.OK, parts[i][j])
				}
			}
		}
	}
}

// TestPromise12Turned looks for first places in turned words, which are the last ones of words.
func TestPromise12Turned(t *testing.T) {
	for k, g := range manyGrammars() {
		n, _ := impl.LengthOf(g)
		turned, _ := impl.TurnGrammar(g)
		for _, p := range []string{"a", "ab", "dcba", "abcdabcdabcd", strings.Repeat("ab", 40), strings.Repeat("aba", 60), mixedWord("abc", 300, uint32(k))} {
			last, code := impl.EmbedLast(g, p)
			first, same := impl.EmbedFirst(turned, turnedBy(p))
			slices.Reverse(first)
			for i := range first {
				first[i] = n - 1 - first[i]
			}
			is(t, "EmbedLast of "+p, fmt.Sprint(first, same), last, code)
			if code != impl.OK {
				continue
			}
			// Each letter stands there, and does not stand between it and the one behind it.
			for i, place := range last {
				at, _ := impl.LetterAt(g, place)
				end := n
				if i+1 < len(last) {
					end = last[i+1]
				}
				before, _ := impl.RankOf(g, p[i:i+1], place+1)
				behind, _ := impl.RankOf(g, p[i:i+1], end)
				is(t, "a last place of "+p, p[i:i+1]+" 0", at, behind-before)
			}
		}
	}
}

// TestPromise12ByHand checks numbers that are known without counting.
func TestPromise12ByHand(t *testing.T) {
	const n = impl.MaxLength
	full := fullGrammar()
	half := new(big.Int).Binomial(n/2+1, 2)
	is(t, "a ahead of b", fmt.Sprint(restOf(half, impl.MaxModulus), " 0"), list(impl.ScatteredCount(full, "ab", impl.MaxModulus))...)
	is(t, "b ahead of a", fmt.Sprint(restOf(new(big.Int).Binomial(n/2, 2), 97), " 0"), list(impl.ScatteredCount(full, "ba", 97))...)
	is(t, "abab", fmt.Sprint(restOf(new(big.Int).Binomial(n/2+2, 4), 999999937), " 0"), list(impl.ScatteredCount(full, "abab", 999999937))...)
	is(t, "as often as it can be", fmt.Sprint(n/2, " 0"), list(impl.SparePower(full, "ab"))...)
	is(t, "shifted by one", fmt.Sprint(n/2-1, " 0"), list(impl.SparePower(full, "ba"))...)
	is(t, "one letter of three", fmt.Sprint(n/4, " 0"), list(impl.SparePower(full, "aab"))...)
	is(t, "one letter", fmt.Sprint(n/2, " 0"), list(impl.SparePower(full, "b"))...)
	is(t, "no letter", "0 0", list(impl.SparePower(full, "abc"))...)
	is(t, "the first places", "[1 2 3 5] 0", list(impl.EmbedFirst(full, "babb"))...)
	is(t, "the last places", fmt.Sprint([]int64{n - 6, n - 5, n - 3, n - 1}, " 0"), list(impl.EmbedLast(full, "abbb"))...)
	is(t, "the first letters", "4 0", list(impl.EmbeddedStart(full, "baabc"))...)
	long := strings.Repeat("a", impl.MaxPlain)
	is(t, "the power of a long word", fmt.Sprint(n/2/impl.MaxPlain, " 0"), list(impl.SparePower(full, long))...)
	first, code := impl.EmbedFirst(full, long)
	is(t, "the last one of its places", fmt.Sprint(impl.MaxPlain, 2*impl.MaxPlain-2, 0), len(first), first[impl.MaxPlain-1], code)
	for _, c := range []pieces{{{"b", n - 1}, {"a", 1}}, {{"b", n - 2}, {"ab", 1}}, {{"a", 1}, {"b", n - 1}}} {
		for _, g := range grammarsOf(t, c) {
			embedsLikePieces(t, g, c, "ba")
			embedsLikePieces(t, g, c, "ab")
			embedsLikePieces(t, g, c, "aa")
			embedsLikePieces(t, g, c, "a")
		}
	}
}
