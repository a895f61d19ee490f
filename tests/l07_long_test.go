package tests

import (
	"fmt"
	"slices"
	"strings"
	"testing"

	"loop.example/g01133/impl"
)

// behindPieces returns a word that may be long behind an edit that fits, part being the word that is inserted.
func behindPieces(w pieces, e impl.Edit, part pieces) pieces {
	if e.Kind == impl.EdInsert {
		return slices.Concat(w.start(e.I), part, w.rest(e.I))
	}
	own := w.start(e.J).rest(e.I)
	switch e.Kind {
	case impl.EdDelete:
		own = nil
	case impl.EdCopy:
		return slices.Concat(w.start(e.K), own, w.rest(e.K))
	case impl.EdMove:
		others, at := slices.Concat(w.start(e.I), w.rest(e.J)), e.K
		if at > e.I {
			at -= own.length()
		}
		return slices.Concat(others.start(at), own, others.rest(at))
	case impl.EdTurn:
		own = own.turned()
	case impl.EdRepeat:
		own = slices.Repeat(own, int(e.K))
	case impl.EdMap:
		own = slices.Clone(own)
		for k := range own {
			own[k].word = strings.NewReplacer("a", e.Map[:1], "b", e.Map[1:2], "c", e.Map[2:3], "d", e.Map[3:]).Replace(own[k].word)
		}
	}
	return slices.Concat(w.start(e.I), own, w.rest(e.J))
}

// longEdit is an edit of a word that may be long, with the word that it inserts.
type longEdit struct {
	e    impl.Edit
	part pieces
}

// longEdits returns edits at the places of a word where something happens.
func longEdits(t *testing.T, w pieces, seed uint32) []longEdit {
	t.Helper()
	next, places := mixing(seed), w.somePlaces()
	inserted := []pieces{{{"d", 1}}, {{"abaab", 3}}, {{"ab", 1 << 40}, {"c", 1}}, {{"a", impl.MaxLength / 2}}}
	var made []longEdit
	for k := range 36 {
		i, j, at := next(len(places)), next(len(places)), next(len(places))
		if i > j {
			i, j = j, i
		}
		if k%7 == 2 && i < at && at < j {
			at = []int{i, j, 0, len(places) - 1}[k%4]
		}
		one, two, three := places[i], places[j], places[at]
		switch k % 7 {
		case 0:
			part := inserted[k/7%len(inserted)]
			made = append(made, longEdit{inserts(three, grammarOf(t, part)), part})
		case 1:
			made = append(made, longEdit{e: deletes(one, two)})
		case 2:
			made = append(made, longEdit{e: moves(one, two, three)})
		case 3:
			made = append(made, longEdit{e: copies(one, two, three)})
		case 4:
			made = append(made, longEdit{e: turns(one, two)})
		case 5:
			made = append(made, longEdit{e: repeats(one, two, int64(k/7))})
		case 6:
			made = append(made, longEdit{e: replaces(one, two, []string{"bacd", "cdcd", "abcd", "dddd", "badc"}[k/7])})
		}
	}
	return made
}

// letterLike checks letters and parts of a long word around some places.
func lettersLike(t *testing.T, name string, g impl.Grammar, w pieces) {
	t.Helper()
	n, code := impl.LengthOf(g)
	says(t, "the length: "+name, n, code, w.length())
	for _, i := range w.somePlaces() {
		around := ""
		for k := max(0, i-3); k < min(n, i+3); k++ {
			around += w.letter(k)
		}
		part, code := impl.UnpackPart(g, max(0, i-3), min(n, i+3))
		is(t, fmt.Sprint("the part around ", i, ": ", name), around+" 0", part, code)
	}
}

func TestPromise16LongWords(t *testing.T) {
	refused := 0
	for k, w := range hugeWords() {
		g := grammarOf(t, w)
		for _, c := range longEdits(t, w, uint32(k*31+3)) {
			name := fmt.Sprintf("%s of %v", nameOf(c.e), w)
			want := behindPieces(w, c.e, c.part)
			joined, most := joinedByPieces(piecesOf(w.length(), c.e, func(i, j int64) impl.Grammar { return partOf(t, g, i, j) }))
			made, code := impl.ApplyEdit(g, c.e)
			inverse, other := impl.InverseEdits(g, c.e)
			if want.length() > impl.MaxLength || most > impl.MaxRules {
				failsWith(t, name, list(made, code), impl.ErrLimit)
				failsWith(t, "the inverse of "+name, list(inverse, other), impl.ErrLimit)
				refused++
				continue
			}
			sameGrammar(t, name, made, code, trimmed(joined))
			lettersLike(t, name, made, want)
			sameWords(t, name, made, grammarOf(t, want))
			sameEdits(t, "the inverse of "+name, inverse, other, inverseBy(c.e, partOf(t, g, c.e.I, max(c.e.I, c.e.J))))
			sameWords(t, name+" that is undone", editAll(t, made, inverse), g)
		}
	}
	is(t, "some are refused, most are not", "true true", refused > 20, refused < 200)
}

// TestPromise16MaxLength checks results that are just as long as they may be, and longer ones.
func TestPromise16MaxLength(t *testing.T) {
	const n = impl.MaxLength
	as := func(n int64) impl.Grammar { return grammarOf(t, pieces{{"a", n}}) }
	one := gram("b\n")
	for _, c := range []struct {
		length int64
		e      impl.Edit
		want   int64
	}{
		{n - 1, inserts(0, one), n}, {n - 1, inserts(n/3, one), n}, {n - 1, inserts(n-1, one), n}, {n, inserts(0, one), n + 1}, {n, inserts(n/3, one), n + 1}, {n, inserts(n, one), n + 1},
		{0, inserts(0, fullGrammar()), n}, {1, inserts(0, fullGrammar()), n + 1}, {1, inserts(1, fullGrammar()), n + 1}, {n, inserts(5, fullGrammar()), 2 * n},
		{n / 2, inserts(7, as(n/2)), n}, {n / 2, inserts(7, as(n/2+1)), n + 1}, {n/2 + 1, inserts(7, as(n/2)), n + 1},
		{n / 2, copies(0, n/2, 3), n}, {n/2 + 1, copies(0, n/2+1, 3), n + 2}, {n/2 + 1, copies(1, n/2, 3), n}, {n/2 + 1, copies(0, n/2, n/2+1), n + 1},
		{n, copies(0, n, n), 2 * n}, {n, copies(0, 1, 0), n + 1}, {n, copies(5, 5, 9), n}, {n - 1, copies(5, 6, 9), n}, {n - 1, copies(5, 7, 9), n + 1},
		{1, repeats(0, 1, n), n}, {1, repeats(0, 1, n-1), n - 1}, {2, repeats(0, 1, n-1), n}, {2, repeats(0, 1, n), n + 1}, {2, repeats(1, 2, n), n + 1}, {2, repeats(0, 2, n/2), n}, {2, repeats(0, 2, n/2+1), n + 2},
		{2, repeats(0, 2, n), 2 * n}, {n / 5, repeats(0, n/5, 5), n}, {n / 5, repeats(0, n/5, 6), n / 5 * 6}, {n/5 + 1, repeats(0, n/5, 5), n + 1}, {n/5 + 1, repeats(1, n/5+1, 5), n + 1},
		{n, repeats(0, n, 1), n}, {n, repeats(0, n, 2), 2 * n}, {n, repeats(n-1, n, 2), n + 1}, {n, repeats(0, n, 0), 0}, {n, repeats(7, 9, 0), n - 2}, {n, repeats(7, 7, n), n}, {n, repeats(0, 0, n), n}, {n, repeats(n, n, n), n},
		{n, deletes(0, n), 0}, {n, deletes(3, 3), n}, {n, moves(0, n/2, n), n}, {n, moves(n/2, n, 0), n}, {n, moves(0, n, 0), n}, {n, moves(0, n, n), n}, {n, turns(0, n), n}, {n, turns(n, n), n}, {n, replaces(0, n, "dcba"), n}, {n, replaces(n, n, "dcba"), n},
	} {
		name := fmt.Sprintf("%s of %d letters", nameOf(c.e), c.length)
		made, code := impl.ApplyEdit(as(c.length), c.e)
		inverse, other := impl.InverseEdits(as(c.length), c.e)
		place, third := impl.PlaceAfter(c.length, c.e, 0)
		if c.want > n {
			failsWith(t, name, list(made, code), impl.ErrLimit)
			failsWith(t, "the inverse of "+name, list(inverse, other), impl.ErrLimit)
			failsWith(t, "a place behind "+name, list(place, third), impl.ErrLimit)
			continue
		}
		m, _ := impl.LengthOf(made)
		is(t, name, fmt.Sprint(c.want, " 0 0 0 0"), m, code, other, place, third)
		sameWords(t, name+" that is undone", editAll(t, made, inverse), as(c.length))
	}
	// A product that is greater than any int64, or that comes back to a small number.
	for _, l := range []int64{9223, 9224, 18446, 18447, 1 << 20, 1 << 30, 1<<49 + 1} {
		for _, k := range []int64{n, n - 1, n/l + 1, greatest/l + 1, 1 << 49, 1<<44 + 1} {
			if k > n {
				continue
			}
			for _, i := range []int64{0, 1} {
				e := repeats(i, l+i, k)
				made, code := impl.ApplyEdit(as(l+i), e)
				failsWith(t, "a long repetition", list(made, code), impl.ErrLimit)
				place, code := impl.PlaceAfter(l+i, e, l)
				failsWith(t, "a place behind a long repetition", list(place, code), impl.ErrLimit)
			}
		}
	}
}

// TestPromise16MaxRules checks edits that need just as many rules as there may be, and more, at the end and on the way.
func TestPromise16MaxRules(t *testing.T) {
	full, n := crowded("ab")
	over, m := crowded("abc")
	c := gram("c\n")
	for _, k := range []struct {
		g    impl.Grammar
		e    impl.Edit
		most int
	}{
		{chain(400), deletes(0, 0), 400}, {chain(400), deletes(200, 201), 400}, {chain(400), deletes(200, 200), 401}, {chain(400), deletes(0, 400), 0}, {chain(400), deletes(0, 1), 399},
		{chain(399), deletes(200, 200), 400},
		{chain(398), inserts(398, c), 400}, {chain(399), inserts(399, c), 401}, {chain(398), inserts(0, c), 400}, {chain(399), inserts(0, c), 401}, {chain(397), inserts(99, c), 400}, {chain(398), inserts(99, c), 401},
		{impl.Grammar{}, inserts(0, chain(400)), 400}, {gram("b\n"), inserts(1, chain(398)), 400}, {gram("b\n"), inserts(0, chain(399)), 401},
		{chain(300), copies(0, 100, 300), 401}, {chain(300), copies(0, 99, 300), 400}, {chain(300), copies(7, 105, 200), 400}, {chain(300), copies(7, 106, 200), 401},
		{chain(397), moves(9, 20, 100), 400}, {chain(398), moves(9, 20, 100), 401}, {chain(397), moves(100, 300, 9), 400}, {chain(398), moves(100, 300, 9), 401}, {chain(399), moves(0, 20, 100), 401}, {chain(398), moves(0, 20, 100), 400},
		{chain(398), turns(9, 20), 400}, {chain(399), turns(9, 20), 401}, {chain(400), turns(0, 400), 400}, {chain(399), turns(0, 9), 400}, {chain(400), turns(0, 9), 401},
		{chain(398), replaces(9, 20, "bbbb"), 400}, {chain(399), replaces(9, 20, "bbbb"), 401}, {chain(400), replaces(0, 400, "bbbb"), 400},
		{chain(400), repeats(0, 400, 1), 400}, {chain(400), repeats(0, 400, 0), 400}, {chain(399), repeats(0, 399, 2), 400}, {chain(400), repeats(0, 400, 2), 401}, {chain(398), repeats(0, 398, 3), 400}, {chain(398), repeats(0, 398, 5), 401}, {chain(399), repeats(0, 399, 3), 401},
		{chain(397), repeats(9, 20, 2), 400}, {chain(397), repeats(9, 20, 3), 401}, {chain(400), repeats(7, 7, impl.MaxLength), 401}, {chain(399), repeats(7, 7, impl.MaxLength), 400},
		// The first piece, one between others and the last one have too many rules by themselves, although what is joined would have fewer.
		{full, deletes(0, 1), 400}, {over, deletes(0, 1), 401}, {turnedRules(full), deletes(n-1, n), 400}, {turnedRules(over), deletes(m-1, m), 401},
		{full, deletes(1, n), 1}, {over, deletes(1, m), 1}, {full, repeats(1, n, 0), 400}, {over, repeats(1, m, 0), 401}, {full, moves(1, n, 0), 402}, {over, moves(0, 1, m), 403}, {over, moves(0, m, 0), 203}, {over, copies(1, m, m), 605},
	} {
		name := nameOf(k.e) + " of " + fmt.Sprintf("%.30q", textOf(k.g))
		joined, most := plainPieces(k.g, k.e)
		is(t, "the rules on the way: "+name, fmt.Sprint(k.most), most)
		made, code := impl.ApplyEdit(k.g, k.e)
		if most > impl.MaxRules {
			failsWith(t, name, list(made, code), impl.ErrLimit)
		} else {
			sameGrammar(t, name, made, code, trimmed(joined))
		}
	}
	made, code := impl.ApplyEdit(full, deletes(0, 1))
	is(t, "the rules of the result", "400 0", len(made.Rules), code)
}
