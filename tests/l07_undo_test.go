package tests

import (
	"fmt"
	"slices"
	"strings"
	"testing"

	"loop.example/g01133/impl"
)

// inverseBy returns the edits that InverseEdits should return for an edit that can be applied, part being the PartGrammar of its part.
func inverseBy(e impl.Edit, part impl.Grammar) []impl.Edit {
	if e.Kind == impl.EdInsert {
		n, _ := impl.LengthOf(e.Part)
		return edits(deletes(e.I, e.I+n))
	}
	l := e.J - e.I
	if l == 0 {
		return nil
	}
	back := inserts(e.I, part)
	switch {
	case e.Kind == impl.EdDelete, e.Kind == impl.EdRepeat && e.K == 0:
		return edits(back)
	case e.Kind == impl.EdCopy:
		return edits(deletes(e.K, e.K+l))
	case e.Kind == impl.EdMove && e.K <= e.I:
		return edits(moves(e.K, e.K+l, e.J))
	case e.Kind == impl.EdMove:
		return edits(moves(e.K-l, e.K, e.I))
	case e.Kind == impl.EdTurn:
		return edits(e)
	case e.Kind == impl.EdRepeat:
		return edits(deletes(e.I, e.I+l*e.K), back)
	}
	return edits(deletes(e.I, e.J), back)
}

// isUndone checks the inverse edits of an edit of a grammar with a short word.
func isUndone(t *testing.T, g impl.Grammar, e impl.Edit) {
	t.Helper()
	w := wordOf(g)
	name := "the inverse of " + editLine(e) + " of " + w
	made, code := impl.ApplyEdit(g, e)
	inverse, other := impl.InverseEdits(g, e)
	if code != impl.OK {
		failsWith(t, name, list(inverse, other), code)
		return
	}
	var part impl.Grammar
	if e.Kind != impl.EdInsert {
		part = partBy(g, int(e.I), int(e.J))
	}
	sameEdits(t, name, inverse, other, inverseBy(e, part))
	if back := wordOf(editAll(t, made, inverse)); back != w {
		t.Errorf("%s: got %q", name, back)
	}
}

func TestPromise16Inverse(t *testing.T) {
	parts := []impl.Grammar{gram("b\n"), gram("a\nb\n1 0\n0 0\n2 3\n")}
	for _, g := range append(smallGrammars(3), gram(example), gram("d\nc\nb\na\n3 2\n1 0\n4 5\n"), gram("c\nc\n0 1\n2 2\n")) {
		for _, e := range allEdits(int64(len(wordOf(g)))+1, parts) {
			isUndone(t, g, e)
		}
	}
	for k, g := range append(smallGrammars(4), mixedGrammars(30, 200)...) {
		next := mixing(uint32(k) + 5)
		for range 8 {
			isUndone(t, g, mixedEdit(int64(len(wordOf(g))), next))
		}
	}
}

func TestPromise16InverseByHand(t *testing.T) {
	g, none := gram(example), edits()
	for _, c := range []struct {
		e    impl.Edit
		want []impl.Edit
	}{
		{inserts(2, gram("c\n0 0\n")), edits(deletes(2, 4))},
		{inserts(0, g), edits(deletes(0, 5))},
		{inserts(5, g), edits(deletes(5, 10))},
		{deletes(1, 4), edits(inserts(1, gram("a\nb\n1 0\n2 0\n")))},
		{deletes(0, 5), edits(inserts(0, g))},
		{deletes(0, 0), none}, {deletes(3, 3), none}, {deletes(5, 5), none},
		{copies(0, 2, 5), edits(deletes(5, 7))}, {copies(1, 4, 0), edits(deletes(0, 3))}, {copies(1, 4, 2), edits(deletes(2, 5))}, {copies(4, 4, 2), none},
		{moves(0, 2, 5), edits(moves(3, 5, 0))}, {moves(3, 5, 0), edits(moves(0, 2, 5))}, {moves(1, 3, 4), edits(moves(2, 4, 1))}, {moves(2, 4, 1), edits(moves(1, 3, 4))},
		{moves(1, 3, 1), edits(moves(1, 3, 3))}, {moves(1, 3, 3), edits(moves(1, 3, 1))}, {moves(2, 2, 5), none}, {moves(0, 0, 0), none}, {moves(0, 5, 0), edits(moves(0, 5, 5))}, {moves(0, 5, 5), edits(moves(0, 5, 0))},
		{turns(1, 4), edits(turns(1, 4))}, {turns(2, 3), edits(turns(2, 3))}, {turns(5, 5), none},
		{repeats(0, 2, 3), edits(deletes(0, 6), inserts(0, gram("a\nb\n0 1\n")))}, {repeats(0, 2, 1), edits(deletes(0, 2), inserts(0, gram("a\nb\n0 1\n")))}, {repeats(3, 5, 0), edits(inserts(3, gram("a\nb\n0 1\n")))},
		{repeats(3, 3, 0), none}, {repeats(3, 3, 9), none}, {repeats(4, 5, 1000), edits(deletes(4, 1004), inserts(4, gram("b\n")))},
		{replaces(0, 2, "bacd"), edits(deletes(0, 2), inserts(0, gram("a\nb\n0 1\n")))}, {replaces(4, 5, "abcd"), edits(deletes(4, 5), inserts(4, gram("b\n")))}, {replaces(4, 4, "bacd"), none},
	} {
		inverse, code := impl.InverseEdits(g, c.e)
		sameEdits(t, "the inverse of "+editLine(c.e), inverse, code, c.want)
	}
	for _, e := range edits(deletes(0, 0), moves(0, 0, 0), copies(0, 0, 0), turns(0, 0), repeats(0, 0, impl.MaxLength), replaces(0, 0, "bacd")) {
		inverse, code := impl.InverseEdits(impl.Grammar{}, e)
		sameEdits(t, "the inverse for the empty word", inverse, code, none)
	}
	inverse, code := impl.InverseEdits(impl.Grammar{}, inserts(0, g))
	sameEdits(t, "the inverse for the empty word", inverse, code, edits(deletes(0, 5)))
	// A turned part has no letter in common with what is turned back.
	e := turns(0, 5)
	e.Part.Rules = []impl.Rule{}
	inverse, code = impl.InverseEdits(g, e)
	sameEdits(t, "the inverse of a turn", inverse, code, edits(turns(0, 5)))
}

// TestPromise16InverseLimit checks parts that can be removed, but not be inserted again.
func TestPromise16InverseLimit(t *testing.T) {
	full, n := crowded("ab")
	over, m := crowded("abc")
	inverse, code := impl.InverseEdits(full, deletes(1, n))
	sameEdits(t, "the inverse of a great removal", inverse, code, edits(inserts(1, partBy(full, 1, int(n)))))
	inverse, code = impl.InverseEdits(over, deletes(1, m))
	failsWith(t, "the inverse of a removal that is too great", list(inverse, code), impl.ErrLimit)
	inverse, code = impl.InverseEdits(over, deletes(1, m+1))
	failsWith(t, "the inverse of a removal outside", list(inverse, code), impl.ErrRange)
	inverse, code = impl.InverseEdits(chain(400), turns(1, 9))
	failsWith(t, "the inverse of an edit with too many rules", list(inverse, code), impl.ErrLimit)
	inverse, code = impl.InverseEdits(chain(400), deletes(9, 10))
	sameEdits(t, "the inverse of an edit with many rules", inverse, code, edits(inserts(9, gram("a\n"))))
	back, code := impl.UndoTo(over, edits(deletes(1, m)), 0)
	failsWith(t, "UndoTo with a removal that is too great", list(back, code), impl.ErrLimit)
	back, code = impl.UndoTo(over, edits(deletes(1, m)), 1)
	sameEdits(t, "UndoTo without this removal", back, code, nil)
	back, code = impl.UndoTo(over, edits(deletes(1, m), inserts(0, gram("d\n"))), 1)
	sameEdits(t, "UndoTo without this removal", back, code, edits(deletes(0, 1)))
	back, code = impl.UndoTo(over, edits(inserts(0, gram("d\n")), deletes(2, m+1), turns(0, 2)), 0)
	failsWith(t, "UndoTo with this removal between others", list(back, code), impl.ErrLimit)
	for _, bad := range edits(deletes(2, 3), inserts(3, gram("a\n")), copies(0, 1, 3)) {
		back, code = impl.UndoTo(over, edits(deletes(1, m), bad), 0)
		failsWith(t, "UndoTo with an edit that cannot be applied", list(back, code), impl.ErrState)
	}
}

// mixedEdits returns edits one after the other, with the word behind each of them; those that do not fit change nothing.
func mixedEdits(w string, count, longest int, next func(n int) int) ([]impl.Edit, []string) {
	var made []impl.Edit
	words := []string{w}
	for len(made) < count {
		e := mixedEdit(int64(len(w)), next)
		if fitsBy(e, int64(len(w))) {
			letters := lettersAlone(editedBy(w, e))
			if len(letters) > longest {
				continue
			}
			w = letters
		}
		made, words = append(made, e), append(words, w)
	}
	return made, words
}

func TestPromise16ApplyEdits(t *testing.T) {
	left := 0
	for seed := range 60 {
		next := mixing(uint32(seed * 101))
		g := mixedGrammar(1+next(25), 60, uint32(seed))
		list, words := mixedEdits(wordOf(g), next(impl.MaxEdits+1), 70, next)
		for count := range len(list) + 1 {
			made, applied, code := impl.ApplyEdits(g, list[:count])
			want, times := g, int64(0)
			for _, e := range list[:count] {
				if behind, code := impl.ApplyEdit(want, e); code == impl.OK {
					want, times = behind, times+1
				}
			}
			sameGrammar(t, "ApplyEdits", made, code, want)
			is(t, "ApplyEdits", fmt.Sprint(words[count], " ", times), wordOf(made), applied)
			left += count - int(times)
		}
	}
	is(t, "some are left out", "true", left > 500)
}

func TestPromise16ApplyEditsAtTheirLimit(t *testing.T) {
	g := gram(example)
	insert := slices.Repeat(edits(inserts(5, gram("c\n"))), impl.MaxEdits+1)
	made, applied, code := impl.ApplyEdits(g, insert[:impl.MaxEdits])
	is(t, "MaxEdits edits", "abaab"+strings.Repeat("c", 60)+" 60 0", wordOf(made), applied, code)
	none, zero, code := impl.ApplyEdits(g, insert)
	failsWith(t, "one more", list(none, zero, code), impl.ErrRange)
	outside := slices.Repeat(edits(deletes(9, 10)), impl.MaxEdits+1)
	made, applied, code = impl.ApplyEdits(g, outside[:impl.MaxEdits])
	is(t, "edits that are left out", example+" 0 0", textOf(made), applied, code)
	none, zero, code = impl.ApplyEdits(g, outside)
	failsWith(t, "one more that would be left out", list(none, zero, code), impl.ErrRange)
	// Without an edit that is applied, the grammar is not trimmed.
	for _, text := range []string{"", "a\nb\n", "c\na\na\n1 2\n", "a\na\n"} {
		for _, some := range [][]impl.Edit{nil, {}, outside[:3]} {
			made, applied, code = impl.ApplyEdits(gram(text), some)
			is(t, "ApplyEdits without edits", text+" 0 0", textOf(made), applied, code)
		}
		made, applied, code = impl.ApplyEdits(gram(text), edits(outside[0], deletes(0, 0), outside[0]))
		is(t, "ApplyEdits of nothing", textOf(trimmedBy(gram(text)))+" 1 0", textOf(made), applied, code)
	}
	// Edits that need too many rules, or make words that are too long, are left out in between.
	made, applied, code = impl.ApplyEdits(chain(400), edits(turns(1, 9), deletes(399, 400), inserts(0, gram("b\n")), deletes(200, 399), inserts(0, gram("b\n"))))
	is(t, "edits with too many rules", "b"+strings.Repeat("a", 200)+" 3 0", wordOf(made), applied, code)
	made, applied, code = impl.ApplyEdits(fullGrammar(), edits(inserts(0, gram("c\n")), copies(0, 1, 0), deletes(3, impl.MaxLength), repeats(0, 3, 2), repeats(0, 6, impl.MaxLength), turns(0, 2)))
	is(t, "edits that make too long words", "baaaba 3 0", wordOf(made), applied, code)
}

func TestPromise16UndoTo(t *testing.T) {
	for seed := range 25 {
		next := mixing(uint32(seed*57 + 1))
		g := mixedGrammar(1+next(25), 60, uint32(seed))
		list, words := mixedEdits(wordOf(g), next(impl.MaxEdits+1), 70, next)
		versions := []impl.Grammar{g}
		// Those that do not fit are an error, so only the others are undone.
		var fitting []impl.Edit
		kept := words[:1:1]
		for k, e := range list {
			if made, code := impl.ApplyEdit(versions[len(versions)-1], e); code == impl.OK {
				versions, fitting, kept = append(versions, made), append(fitting, e), append(kept, words[k+1])
			}
		}
		if len(fitting) < len(list) {
			back, code := impl.UndoTo(g, list, int64(len(list)))
			failsWith(t, "UndoTo with an edit that does not fit", []any{back, code}, impl.ErrState)
		}
		for count := range len(fitting) + 1 {
			var want []impl.Edit
			for k := len(fitting) - 1; k >= count; k-- {
				inverse, _ := impl.InverseEdits(versions[k], fitting[k])
				want = append(want, inverse...)
			}
			back, code := impl.UndoTo(g, fitting, int64(count))
			sameEdits(t, "UndoTo", back, code, want)
			if count%5 == seed%5 {
				is(t, "the word of an earlier version", kept[count], wordOf(editAll(t, versions[len(fitting)], back)))
			}
		}
	}
}

func TestPromise16UndoToByHand(t *testing.T) {
	g, ab := gram(example), gram("a\nb\n0 1\n")
	some := edits(deletes(0, 2), turns(0, 3), repeats(1, 2, 3), inserts(5, gram("d\n")), copies(2, 2, 0), replaces(0, 1, "cccc"))
	for count, want := range [][]impl.Edit{
		{deletes(0, 1), inserts(0, gram("b\n")), deletes(5, 6), deletes(1, 4), inserts(1, gram("a\n")), turns(0, 3), inserts(0, ab)},
		{deletes(0, 1), inserts(0, gram("b\n")), deletes(5, 6), deletes(1, 4), inserts(1, gram("a\n")), turns(0, 3)},
		{deletes(0, 1), inserts(0, gram("b\n")), deletes(5, 6), deletes(1, 4), inserts(1, gram("a\n"))},
		{deletes(0, 1), inserts(0, gram("b\n")), deletes(5, 6)},
		{deletes(0, 1), inserts(0, gram("b\n"))},
		{deletes(0, 1), inserts(0, gram("b\n"))},
		nil,
	} {
		back, code := impl.UndoTo(g, some, int64(count))
		sameEdits(t, fmt.Sprint("UndoTo ", count), back, code, want)
	}
	for _, count := range []int64{least, -1, 7, greatest} {
		back, code := impl.UndoTo(g, some, count)
		failsWith(t, fmt.Sprint("UndoTo ", count), list(back, code), impl.ErrRange)
	}
	back, code := impl.UndoTo(g, nil, 0)
	sameEdits(t, "UndoTo without edits", back, code, nil)
	back, code = impl.UndoTo(g, nil, 1)
	failsWith(t, "UndoTo without edits", list(back, code), impl.ErrRange)
	// Also an edit that would not be undone has to fit.
	for k := range some {
		bad := slices.Insert(slices.Clone(some), k, deletes(50, 60))
		for _, count := range []int64{0, int64(k), int64(k) + 1, 7} {
			back, code = impl.UndoTo(g, bad, count)
			failsWith(t, "UndoTo with an edit that does not fit", list(back, code), impl.ErrState)
		}
	}
	back, code = impl.UndoTo(chain(400), edits(deletes(0, 0), turns(1, 9)), 2)
	failsWith(t, "UndoTo with an edit that needs too many rules", list(back, code), impl.ErrState)
	back, code = impl.UndoTo(fullGrammar(), edits(copies(0, 1, 0)), 0)
	failsWith(t, "UndoTo with an edit that makes a word too long", list(back, code), impl.ErrState)
	many := slices.Repeat(edits(turns(0, 2)), impl.MaxEdits+1)
	back, code = impl.UndoTo(g, many[1:], 0)
	sameEdits(t, "UndoTo with MaxEdits edits", back, code, many[1:])
	for _, count := range []int64{0, 60, 61} {
		back, code = impl.UndoTo(g, many, count)
		failsWith(t, "UndoTo with one more", list(back, code), impl.ErrRange)
	}
}

// TestPromise16UndoLongWords undoes several edits of words that cannot be unpacked.
func TestPromise16UndoLongWords(t *testing.T) {
	undone, refused := 0, 0
	for k, w := range hugeWords() {
		g := grammarOf(t, w)
		versions := []impl.Grammar{g}
		var done []impl.Edit
		for _, c := range longEdits(t, w, uint32(k*17+9)) {
			if c.e.Kind == impl.EdRepeat && c.e.K > 1 {
				continue
			}
			if made, code := impl.ApplyEdit(versions[len(versions)-1], c.e); code == impl.OK {
				versions, done = append(versions, made), append(done, c.e)
			}
			if len(done) == 6 {
				break
			}
		}
		for count := range len(done) + 1 {
			back, code := impl.UndoTo(g, done, int64(count))
			is(t, "UndoTo", "0", code)
			made, times, code := impl.ApplyEdits(versions[len(done)], back)
			is(t, "ApplyEdits", "0", code)
			if int(times) < len(back) {
				refused++
				continue
			}
			sameWords(t, fmt.Sprintf("an earlier version of %v", w), made, versions[count])
			undone++
		}
	}
	// A few of them would need too many rules on the way back.
	is(t, "most can be undone", "true", undone > 4*refused)
}
