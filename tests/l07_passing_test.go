package tests

import (
	"fmt"
	"slices"
	"strings"
	"testing"

	"loop.example/g01133/impl"
)

// passersOf returns all insertions and removals with places up to n.
func passersOf(n int64, parts ...string) []impl.Edit {
	var made []impl.Edit
	for i := range n + 1 {
		for _, part := range parts {
			made = append(made, inserts(i, plainBy(part)))
		}
		for j := i; j <= n; j++ {
			made = append(made, deletes(i, j))
		}
	}
	return made
}

// leftBy returns what PassEdit should leave of e behind f for a word of n letters: its letters are looked for in what f makes.
func leftBy(n int, e, f impl.Edit, first bool) []impl.Edit {
	made := editedBy(strings.Repeat("a", n), f)
	if e.Kind == impl.EdInsert {
		ahead := 0
		for _, m := range made {
			fresh := m.from < 0 && (f.I < e.I || f.I == e.I && !first)
			if fresh || m.from >= 0 && m.from < int(e.I) {
				ahead++
			}
		}
		return edits(inserts(int64(ahead), e.Part))
	}
	var left []impl.Edit
	for end := len(made); end > 0; end-- {
		start := end
		for start > 0 && int(e.I) <= made[start-1].from && made[start-1].from < int(e.J) {
			start--
		}
		if start < end {
			left = append(left, deletes(int64(start), int64(end)))
			end = start + 1
		}
	}
	return left
}

// mergedWord returns the word behind two edits of the same word: at each place what is inserted, by e first, and the
// letter there, if it is not removed.
func mergedWord(w string, e, f impl.Edit) string {
	var word strings.Builder
	for place := range int64(len(w)) + 1 {
		removed := place == int64(len(w))
		for _, edit := range edits(e, f) {
			if edit.Kind == impl.EdInsert && edit.I == place {
				word.WriteString(wordOf(edit.Part))
			}
			removed = removed || edit.Kind == impl.EdDelete && edit.I <= place && place < edit.J
		}
		if !removed {
			word.WriteByte(w[place])
		}
	}
	return word.String()
}

// passEachOther checks two edits of the same short word in both orders.
func passEachOther(t *testing.T, g impl.Grammar, w string, e, f impl.Edit) {
	t.Helper()
	name := fmt.Sprintf("%s and %s of %q", editLine(e), editLine(f), w)
	for _, first := range []bool{false, true} {
		left, code := impl.PassEdit(e, f, first)
		sameEdits(t, fmt.Sprint("PassEdit of ", name, " ", first), left, code, leftBy(len(w), e, f, first))
	}
	want := mergedWord(w, e, f)
	merged, code := impl.MergeEdits(g, e, f)
	sameGrammar(t, "MergeEdits of "+name, merged, code, editAll(t, editOne(t, g, e), leftBy(len(w), f, e, false)))
	other, code := impl.PassEdit(e, f, true)
	is(t, "the words of "+name, fmt.Sprint("0 ", want, " ", want), code, wordOf(merged), wordOf(editAll(t, editOne(t, g, f), other)))
}

func TestPromise17Passing(t *testing.T) {
	for n := range 6 {
		w := mixedWord("abcd", n, uint32(n)+3)
		all := passersOf(int64(n), "c", "dcc")
		for _, e := range all {
			for _, f := range all {
				passEachOther(t, plainBy(w), w, e, f)
			}
		}
	}
	for seed := range 60 {
		next := mixing(uint32(seed) + 20)
		g := mixedGrammar(1+next(30), 150, uint32(seed))
		w := wordOf(g)
		one := func() impl.Edit {
			i, j := next(len(w)+1), next(len(w)+1)
			if next(2) == 0 {
				return inserts(int64(i), mixedGrammar(1+next(6), 9, uint32(next(999))))
			}
			return deletes(int64(min(i, j)), int64(max(i, j)))
		}
		for range 25 {
			passEachOther(t, g, w, one(), one())
		}
	}
}

// TestPromise17PassingByHand tells by hand what is left.
func TestPromise17PassingByHand(t *testing.T) {
	in := func(i int64) impl.Edit { return inserts(i, gram("b\n0 0\n")) }
	none := edits()
	for _, c := range []struct {
		e, f         impl.Edit
		still, first []impl.Edit // with first being false and true
	}{
		{in(2), in(1), edits(in(4)), edits(in(4))}, {in(2), in(2), edits(in(4)), edits(in(2))}, {in(2), in(3), edits(in(2)), edits(in(2))}, {in(0), in(0), edits(in(2)), edits(in(0))},
		{in(2), deletes(3, 5), edits(in(2)), edits(in(2))}, {in(3), deletes(3, 5), edits(in(3)), edits(in(3))}, {in(4), deletes(3, 5), edits(in(3)), edits(in(3))}, {in(5), deletes(3, 5), edits(in(3)), edits(in(3))}, {in(6), deletes(3, 5), edits(in(4)), edits(in(4))}, {in(3), deletes(3, 3), edits(in(3)), edits(in(3))},
		{deletes(3, 6), in(2), edits(deletes(5, 8)), edits(deletes(5, 8))}, {deletes(3, 6), in(3), edits(deletes(5, 8)), edits(deletes(5, 8))}, {deletes(3, 6), in(4), edits(deletes(6, 8), deletes(3, 4)), edits(deletes(6, 8), deletes(3, 4))}, {deletes(3, 6), in(5), edits(deletes(7, 8), deletes(3, 5)), edits(deletes(7, 8), deletes(3, 5))},
		{deletes(3, 6), in(6), edits(deletes(3, 6)), edits(deletes(3, 6))}, {deletes(3, 6), in(7), edits(deletes(3, 6)), edits(deletes(3, 6))}, {deletes(3, 3), in(3), none, none}, {deletes(3, 3), in(2), none, none}, {deletes(3, 3), in(4), none, none}, {deletes(3, 4), in(3), edits(deletes(5, 6)), edits(deletes(5, 6))},
		{deletes(3, 6), deletes(0, 2), edits(deletes(1, 4)), edits(deletes(1, 4))}, {deletes(3, 6), deletes(0, 3), edits(deletes(0, 3)), edits(deletes(0, 3))}, {deletes(3, 6), deletes(0, 4), edits(deletes(0, 2)), edits(deletes(0, 2))}, {deletes(3, 6), deletes(0, 6), none, none}, {deletes(3, 6), deletes(2, 7), none, none}, {deletes(3, 6), deletes(3, 6), none, none},
		{deletes(3, 6), deletes(4, 5), edits(deletes(3, 5)), edits(deletes(3, 5))}, {deletes(3, 6), deletes(4, 9), edits(deletes(3, 4)), edits(deletes(3, 4))}, {deletes(3, 6), deletes(6, 9), edits(deletes(3, 6)), edits(deletes(3, 6))}, {deletes(3, 6), deletes(8, 9), edits(deletes(3, 6)), edits(deletes(3, 6))}, {deletes(3, 6), deletes(4, 4), edits(deletes(3, 6)), edits(deletes(3, 6))}, {deletes(4, 4), deletes(3, 6), none, none}, {deletes(9, 9), deletes(3, 6), none, none},
	} {
		left, code := impl.PassEdit(c.e, c.f, false)
		sameEdits(t, fmt.Sprint("PassEdit of ", editLine(c.e), " and ", editLine(c.f), " false"), left, code, c.still)
		left, code = impl.PassEdit(c.e, c.f, true)
		sameEdits(t, fmt.Sprint("PassEdit of ", editLine(c.e), " and ", editLine(c.f), " true"), left, code, c.first)
	}
}

func TestPromise17PassingAtItsLimit(t *testing.T) {
	const n = impl.MaxLength
	one, full := gram("d\n"), fullGrammar()
	for _, c := range []struct {
		e, f  impl.Edit
		first bool
		want  []impl.Edit // nil stands for ErrLimit
	}{
		{inserts(n-1, one), inserts(0, one), false, edits(inserts(n, one))}, {inserts(n, one), inserts(0, one), false, nil}, {inserts(n, one), inserts(n-1, one), true, nil}, {inserts(n, one), inserts(n, one), true, edits(inserts(n, one))}, {inserts(n, one), inserts(n, one), false, nil}, {inserts(0, full), inserts(0, full), false, edits(inserts(n, full))}, {inserts(1, full), inserts(1, full), false, nil}, {inserts(1, full), inserts(1, full), true, edits(inserts(1, full))},
		{inserts(2, full), inserts(1, full), true, nil}, {inserts(n, full), inserts(0, full), true, nil}, {inserts(n, one), deletes(0, 1), true, edits(inserts(n-1, one))}, {inserts(n, one), deletes(n, n), true, edits(inserts(n, one))}, {inserts(n, one), deletes(0, n), true, edits(inserts(0, one))},
		{deletes(5, n), inserts(6, one), false, nil}, {deletes(5, n-1), inserts(6, one), false, edits(deletes(7, n), deletes(5, 6))}, {deletes(5, n), inserts(n-1, one), false, nil}, {deletes(5, n), inserts(n, one), false, edits(deletes(5, n))}, {deletes(5, n), inserts(5, one), false, nil}, {deletes(n-1, n), inserts(0, one), false, nil}, {deletes(n-2, n-1), inserts(0, one), false, edits(deletes(n-1, n))}, {deletes(0, 1), inserts(0, full), false, nil}, {deletes(0, 1), inserts(1, full), false, edits(deletes(0, 1))},
		{deletes(n, n), inserts(0, one), false, []impl.Edit{}}, {deletes(n, n), inserts(0, full), true, []impl.Edit{}}, {deletes(0, n), deletes(0, n), false, []impl.Edit{}}, {deletes(0, n), deletes(n, n), false, edits(deletes(0, n))}, {deletes(0, n), deletes(1, n-1), false, edits(deletes(0, 2))}, {deletes(n-1, n), deletes(0, n-1), false, edits(deletes(0, 1))},
	} {
		left, code := impl.PassEdit(c.e, c.f, c.first)
		name := fmt.Sprint("PassEdit of ", nameOf(c.e), " and ", nameOf(c.f), " ", c.first)
		if c.want == nil {
			failsWith(t, name, list(left, code), impl.ErrLimit)
		} else {
			sameEdits(t, name, left, code, c.want)
		}
	}
}

// TestPromise17PassingErrors checks which error comes first.
func TestPromise17PassingErrors(t *testing.T) {
	one, g := gram("d\n"), gram(example)
	fine := edits(inserts(2, one), deletes(1, 3))
	far := edits(inserts(6, one), deletes(3, 6), deletes(6, 6), inserts(impl.MaxLength, one), deletes(0, impl.MaxLength))
	others := edits(copies(1, 2, 3), moves(1, 2, 3), turns(1, 2), repeats(1, 2, 3), replaces(1, 2, "abcd"), copies(9, 9, 9), repeats(0, 5, impl.MaxLength))
	fails := func(e, f impl.Edit, passing, merging int64) {
		t.Helper()
		for _, first := range []bool{false, true} {
			if left, code := impl.PassEdit(e, f, first); passing != impl.OK || code != impl.OK {
				failsWith(t, "PassEdit of "+nameOf(e)+" and "+nameOf(f), list(left, code), passing)
			}
		}
		merged, code := impl.MergeEdits(g, e, f)
		failsWith(t, "MergeEdits of "+nameOf(e)+" and "+nameOf(f), list(merged, code), merging)
	}
	for _, e := range slices.Concat(fine, far[:3]) {
		for _, f := range others {
			fails(e, f, impl.ErrRange, impl.ErrRange)
			fails(f, e, impl.ErrRange, impl.ErrRange)
			fails(f, f, impl.ErrRange, impl.ErrRange)
		}
	}
	for _, e := range fine {
		for _, f := range far {
			if f.J < impl.MaxLength && f.I < impl.MaxLength {
				fails(e, f, impl.OK, impl.ErrRange)
				fails(f, e, impl.OK, impl.ErrRange)
			}
			merged, code := impl.MergeEdits(g, f, e)
			failsWith(t, "MergeEdits outside", list(merged, code), impl.ErrRange)
			merged, code = impl.MergeEdits(g, e, f)
			failsWith(t, "MergeEdits outside", list(merged, code), impl.ErrRange)
		}
	}
	for k, bad := range someInvalidEdits() {
		for _, e := range slices.Concat(fine, far[k%5:k%5+1], others[k%7:k%7+1]) {
			fails(e, bad, impl.ErrInvalid, impl.ErrInvalid)
			fails(bad, e, impl.ErrInvalid, impl.ErrInvalid)
		}
	}
}

// TestPromise17Merging checks merges of words that are just as long as they may be, on the way, and of many rules.
func TestPromise17Merging(t *testing.T) {
	const n = impl.MaxLength
	one, two := gram("c\n"), gram("d\nd\n0 1\n")
	as := func(n int64) impl.Grammar { return grammarOf(t, pieces{{"a", n}}) }
	for _, c := range []struct {
		g    impl.Grammar
		e, f impl.Edit
		want pieces // nil stands for ErrLimit
	}{
		{as(n - 2), inserts(5, one), inserts(3, one), pieces{{"a", 3}, {"c", 1}, {"a", 2}, {"c", 1}, {"a", n - 7}}},
		{as(n - 2), inserts(5, one), inserts(5, two), nil},
		{as(n - 3), inserts(5, one), inserts(5, two), pieces{{"a", 5}, {"cdd", 1}, {"a", n - 8}}},
		{as(n - 3), inserts(5, two), inserts(5, one), pieces{{"a", 5}, {"ddc", 1}, {"a", n - 8}}},
		{as(n - 3), inserts(n-3, two), inserts(n-3, one), pieces{{"a", n - 3}, {"ddc", 1}}},
		// The second one alone would make a word that is too long, but not behind the first one.
		{as(n), deletes(0, 2), inserts(7, two), pieces{{"a", 5}, {"dd", 1}, {"a", n - 7}}},
		{as(n), inserts(7, two), deletes(0, 2), nil},
		{as(n), deletes(0, 1), inserts(7, two), nil},
		{as(n), deletes(0, n), inserts(n, fullGrammar()), pieces{{"ab", n / 2}}},
		{as(n), deletes(0, n), inserts(0, fullGrammar()), pieces{{"ab", n / 2}}},
		{as(n), deletes(0, n-1), inserts(0, fullGrammar()), nil},
		{as(n), deletes(n/3, n/2), deletes(n/4, n/2+1), pieces{{"a", n/4 + n/2 - 1}}},
		{as(n), deletes(n/4, n/2), inserts(n/3, two), pieces{{"a", n / 4}, {"dd", 1}, {"a", n / 2}}},
		{as(n - 2), inserts(n/2, two), deletes(n/4, n/2+3), pieces{{"a", n / 4}, {"dd", 1}, {"a", n/2 - 5}}},
	} {
		name := fmt.Sprint("MergeEdits of ", nameOf(c.e), " and ", nameOf(c.f))
		merged, code := impl.MergeEdits(c.g, c.e, c.f)
		if c.want == nil {
			failsWith(t, name, list(merged, code), impl.ErrLimit)
			continue
		}
		is(t, name, "0", code)
		lettersLike(t, name, merged, c.want)
		sameWords(t, name, merged, grammarOf(t, c.want))
	}
	// Too many rules for the second edit alone, and on the way.
	merged, code := impl.MergeEdits(chain(400), deletes(0, 300), inserts(350, one))
	is(t, "a merge of many rules", strings.Repeat("a", 50)+"c"+strings.Repeat("a", 50)+" 0", wordOf(merged), code)
	merged, code = impl.MergeEdits(chain(400), inserts(350, one), deletes(0, 300))
	failsWith(t, "a merge of too many rules", list(merged, code), impl.ErrLimit)
	merged, code = impl.MergeEdits(chain(400), deletes(0, 1), deletes(0, 400))
	is(t, "a merge to nothing", "0 0", len(merged.Rules), code)
	merged, code = impl.MergeEdits(chain(400), deletes(0, 1), deletes(100, 102))
	is(t, "a merge of removals", "397 0", len(wordOf(merged)), code)
	merged, code = impl.MergeEdits(chain(400), deletes(0, 1), inserts(100, one))
	failsWith(t, "a merge with too many rules in the end", list(merged, code), impl.ErrLimit)
	for _, text := range []string{"", "a\nb\n", example} {
		merged, code = impl.MergeEdits(gram(text), deletes(0, 0), deletes(0, 0))
		sameGrammar(t, "a merge without changes", merged, code, trimmedBy(gram(text)))
	}
}

// differenceBy returns the edits that DifferenceEdits should return for short words.
func differenceBy(u, w string, h impl.Grammar) []impl.Edit {
	start, end := 0, 0
	for start < min(len(u), len(w)) && u[start] == w[start] {
		start++
	}
	for end < min(len(u), len(w))-start && u[len(u)-1-end] == w[len(w)-1-end] {
		end++
	}
	var made []impl.Edit
	if start < len(u)-end {
		made = append(made, deletes(int64(start), int64(len(u)-end)))
	}
	if start < len(w)-end {
		made = append(made, inserts(int64(start), partBy(h, start, len(w)-end)))
	}
	return made
}

func TestPromise17Differences(t *testing.T) {
	differ := func(g, h impl.Grammar) {
		t.Helper()
		u, w := wordOf(g), wordOf(h)
		found, code := impl.DifferenceEdits(g, h)
		sameEdits(t, fmt.Sprintf("the difference of %q and %q", u, w), found, code, differenceBy(u, w, h))
		is(t, "the word behind the difference", w, wordOf(editAll(t, g, found)))
	}
	words := append(wordsUpTo("ab", 5), wordsUpTo("abc", 3)...)
	for _, u := range words {
		for _, w := range words {
			differ(plainBy(u), plainBy(w))
		}
	}
	grammars := append(smallGrammars(3), mixedGrammars(30, 200)[:40]...)
	for k, g := range grammars {
		for _, h := range grammars {
			differ(g, h)
		}
		// Words of which a part has been changed.
		next := mixing(uint32(k))
		for range 6 {
			if made, code := impl.ApplyEdit(g, mixedEdit(int64(len(wordOf(g))), next)); code == impl.OK {
				differ(g, made)
				differ(made, g)
			}
		}
	}
}

func TestPromise17DifferencesByHand(t *testing.T) {
	for _, c := range []struct {
		u, w string
		want []impl.Edit
	}{
		{"", "", nil}, {"abaab", "abaab", nil}, {"", "ab", edits(inserts(0, plainBy("ab")))}, {"ab", "", edits(deletes(0, 2))},
		{"abaab", "abbab", edits(deletes(2, 3), inserts(2, plainBy("b")))}, {"aaa", "aaaaa", edits(inserts(3, plainBy("aa")))}, {"aaaaa", "aaa", edits(deletes(3, 5))}, {"aba", "ababa", edits(inserts(3, plainBy("ba")))}, {"ababa", "aba", edits(deletes(3, 5))},
		{"abc", "abdc", edits(inserts(2, plainBy("d")))}, {"abdc", "abc", edits(deletes(2, 3))}, {"abc", "dabc", edits(inserts(0, plainBy("d")))}, {"dabc", "abc", edits(deletes(0, 1))}, {"ab", "cd", edits(deletes(0, 2), inserts(0, plainBy("cd")))}, {"aab", "aaab", edits(inserts(2, plainBy("a")))},
	} {
		found, code := impl.DifferenceEdits(plainBy(c.u), plainBy(c.w))
		sameEdits(t, fmt.Sprintf("the difference of %q and %q", c.u, c.w), found, code, c.want)
	}
	over, n := crowded("abc")
	full, m := crowded("ab")
	found, code := impl.DifferenceEdits(gram("a\n"), over)
	failsWith(t, "a difference with too many rules", list(found, code), impl.ErrLimit)
	found, code = impl.DifferenceEdits(plainBy("ad"), over)
	failsWith(t, "a difference with too many rules", list(found, code), impl.ErrLimit)
	found, code = impl.DifferenceEdits(gram("a\n"), full)
	sameEdits(t, "a difference with many rules", found, code, edits(inserts(1, partBy(full, 1, int(m)))))
	found, code = impl.DifferenceEdits(over, gram("a\n"))
	sameEdits(t, "a difference that removes", found, code, edits(deletes(1, n)))
	found, code = impl.DifferenceEdits(over, over)
	sameEdits(t, "no difference", found, code, nil)
	found, code = impl.DifferenceEdits(impl.Grammar{}, over)
	sameEdits(t, "a difference from nothing", found, code, edits(inserts(0, trimmed(over))))
}

func TestPromise17LongDifferences(t *testing.T) {
	differ := func(g, h impl.Grammar, u, w pieces) {
		t.Helper()
		found, code := impl.DifferenceEdits(g, h)
		start := commonBy(u, 0, w, 0)
		end := min(commonBy(u.turned(), 0, w.turned(), 0), u.length()-start, w.length()-start)
		var want []impl.Edit
		if n := u.length() - end; start < n {
			want = append(want, deletes(start, n))
		}
		if n := w.length() - end; start < n {
			want = append(want, inserts(start, partOf(t, h, start, n)))
		}
		sameEdits(t, fmt.Sprintf("the difference of %v and %v", u, w), found, code, want)
		made, times, code := impl.ApplyEdits(g, found)
		if int(times) == len(found) {
			is(t, "ApplyEdits", "0", code)
			sameWords(t, "the word behind the difference", made, h)
		}
	}
	words := hugeWords()
	for k, u := range words {
		g, n := grammarOf(t, u), u.length()
		for l := range 3 {
			w := words[(k+l)%len(words)]
			differ(g, grammarOf(t, w), u, w)
		}
		for _, w := range []pieces{u.with(n/3, "d"), u.with(0, "c"), u.with(n-1, "c"), u.start(n / 2), u.rest(n / 2), slices.Concat(u.start(n/5), u.rest(n/5+7)), slices.Concat(u.start(n/5), pieces{{"abaab", 1 << 40}}, u.rest(n/2))} {
			if w.length() <= impl.MaxLength {
				differ(g, grammarOf(t, w), u, w)
				differ(grammarOf(t, w), g, w, u)
			}
		}
	}
}
