package tests

import (
	"fmt"
	"slices"
	"strings"
	"testing"

	"loop.example/g01133/impl"
)

// isChanged reports whether an edit changes its part where it stands.
func isChanged(e impl.Edit) bool {
	return e.Kind == impl.EdTurn || e.Kind == impl.EdRepeat || e.Kind == impl.EdMap
}

// placeBy returns where a place of a short word is behind an edit that fits, told by the letters around it.
func placeBy(w string, e impl.Edit, place int) int {
	made := editedBy(w, e)
	inside := int(e.I) < place && place < int(e.J)
	switch {
	case e.Kind == impl.EdTurn && inside:
		// The letter that was behind it is before it now.
		return 1 + slices.IndexFunc(made, func(m mark) bool { return m.from == place })
	case isChanged(e) && place >= int(e.J):
		// As far from the end as it was.
		return len(made) - (len(w) - place)
	}
	// Behind the last letter that was before it and is still there; of a move, only letters that go with it count.
	at, from := 0, -1
	for k, m := range made {
		apart := e.Kind == impl.EdMove && !inside && int(e.I) <= m.from && m.from < int(e.J)
		if m.from < place && m.from > from && !apart {
			at, from = k+1, m.from
		}
	}
	return at
}

// placesFollow holds all places of a word behind an edit against the letters around them.
func placesFollow(t *testing.T, w string, e impl.Edit) {
	t.Helper()
	n := int64(len(w))
	for _, place := range []int64{-1, n + 1} {
		failsWith(t, "a place outside: "+editLine(e), list(impl.PlaceAfter(n, e, place)), impl.ErrRange)
	}
	for place := range n + 1 {
		name := fmt.Sprintf("the place %d of %q behind %s", place, w, editLine(e))
		got, code := impl.PlaceAfter(n, e, place)
		if !fitsBy(e, n) {
			failsWith(t, name, list(got, code), impl.ErrRange)
		} else {
			says(t, name, got, code, int64(placeBy(w, e, int(place))))
		}
	}
}

// aroundLetter returns where the places before and behind a letter come to that comes itself to the place at.
func aroundLetter(e impl.Edit, letter, at int64) (int64, int64) {
	before, behind := at, at+1
	l := e.J - e.I
	inside := e.I <= letter && letter < e.J
	switch {
	case e.Kind == impl.EdInsert && letter == e.I:
		before = e.I
	case e.Kind == impl.EdCopy && letter == e.K:
		before = e.K
	case e.Kind == impl.EdMove && !inside:
		target := e.K
		if e.K > e.I {
			target -= l
		}
		// The part has come between the place and this letter.
		if at == target+l {
			before = target
		}
	case e.Kind == impl.EdMove, e.Kind == impl.EdTurn && inside:
		first, _ := impl.PlaceAfter(impl.MaxLength, e, e.I)
		last, _ := impl.PlaceAfter(impl.MaxLength, e, e.J)
		if e.Kind == impl.EdTurn {
			before, behind = at+1, at
		}
		// The ends of the part are not inside of it.
		if letter == e.I {
			before = first
		}
		if letter+1 == e.J {
			behind = last
		}
	case e.Kind == impl.EdRepeat && letter+1 == e.J:
		behind = e.I + l*e.K
	}
	return before, behind
}

// lettersFollow holds the places before and behind each letter that is still there against where it is.
func lettersFollow(t *testing.T, w string, e impl.Edit) {
	t.Helper()
	if !fitsBy(e, int64(len(w))) {
		return
	}
	for at, m := range editedBy(w, e) {
		if m.from < 0 {
			continue
		}
		before, code := impl.PlaceAfter(int64(len(w)), e, int64(m.from))
		behind, other := impl.PlaceAfter(int64(len(w)), e, int64(m.from)+1)
		one, two := aroundLetter(e, int64(m.from), int64(at))
		is(t, fmt.Sprintf("around the letter %d of %q behind %s", m.from, w, editLine(e)), fmt.Sprint(one, " 0 ", two, " 0"), before, code, behind, other)
	}
}

func TestPromise17Places(t *testing.T) {
	parts := []impl.Grammar{gram("b\n"), gram("a\nb\n1 0\n2 2\n")}
	for n := range 7 {
		w := mixedWord("abcd", n, 5)
		for _, e := range allEdits(int64(n)+1, parts) {
			placesFollow(t, w, e)
			lettersFollow(t, w, e)
		}
	}
	for seed := range uint32(40) {
		next := mixing(seed + 9)
		w := mixedWord("abcd", 10+next(60), seed)
		for range 20 {
			e := mixedEdit(int64(len(w)), next)
			placesFollow(t, w, e)
			lettersFollow(t, w, e)
		}
	}
}

// TestPromise17PlacesByHand tells the places at I, at J, between both and around them.
func TestPromise17PlacesByHand(t *testing.T) {
	for _, c := range []struct {
		e    impl.Edit
		want string // of the places 0 to 8 of a word of 8 letters
	}{
		{inserts(3, plainBy("cc")), "0 1 2 3 6 7 8 9 10"}, {inserts(0, plainBy("c")), "0 2 3 4 5 6 7 8 9"}, {inserts(8, plainBy("cc")), "0 1 2 3 4 5 6 7 8"},
		{deletes(3, 6), "0 1 2 3 3 3 3 4 5"}, {deletes(0, 8), "0 0 0 0 0 0 0 0 0"}, {deletes(3, 3), "0 1 2 3 4 5 6 7 8"}, {deletes(0, 2), "0 0 0 1 2 3 4 5 6"}, {deletes(6, 8), "0 1 2 3 4 5 6 6 6"},
		{copies(3, 6, 1), "0 1 5 6 7 8 9 10 11"}, {copies(3, 6, 3), "0 1 2 3 7 8 9 10 11"}, {copies(3, 6, 6), "0 1 2 3 4 5 6 10 11"}, {copies(3, 6, 5), "0 1 2 3 4 5 9 10 11"}, {copies(3, 6, 0), "0 4 5 6 7 8 9 10 11"}, {copies(3, 6, 8), "0 1 2 3 4 5 6 7 8"}, {copies(3, 3, 1), "0 1 2 3 4 5 6 7 8"},
		{moves(3, 6, 1), "0 1 5 6 2 3 6 7 8"}, {moves(3, 6, 3), "0 1 2 3 4 5 3 7 8"}, {moves(3, 6, 6), "0 1 2 3 4 5 3 7 8"}, {moves(3, 6, 7), "0 1 2 3 5 6 3 4 8"}, {moves(3, 6, 8), "0 1 2 3 6 7 3 4 5"}, {moves(3, 6, 0), "0 4 5 6 1 2 6 7 8"},
		{moves(0, 3, 8), "0 6 7 0 1 2 3 4 5"}, {moves(5, 8, 0), "0 4 5 6 7 8 1 2 8"}, {moves(0, 8, 0), "0 1 2 3 4 5 6 7 0"}, {moves(0, 8, 8), "0 1 2 3 4 5 6 7 0"}, {moves(3, 3, 7), "0 1 2 3 4 5 6 7 8"}, {moves(3, 4, 1), "0 1 3 4 4 5 6 7 8"},
		{turns(3, 6), "0 1 2 3 5 4 6 7 8"}, {turns(0, 8), "0 7 6 5 4 3 2 1 8"}, {turns(3, 3), "0 1 2 3 4 5 6 7 8"}, {turns(3, 5), "0 1 2 3 4 5 6 7 8"},
		{repeats(3, 6, 0), "0 1 2 3 3 3 3 4 5"}, {repeats(3, 6, 1), "0 1 2 3 4 5 6 7 8"}, {repeats(3, 6, 2), "0 1 2 3 4 5 9 10 11"}, {repeats(3, 6, 4), "0 1 2 3 4 5 15 16 17"}, {repeats(3, 3, 9), "0 1 2 3 4 5 6 7 8"}, {repeats(0, 8, 2), "0 1 2 3 4 5 6 7 16"}, {repeats(0, 8, 0), "0 0 0 0 0 0 0 0 0"},
		{replaces(3, 6, "bbbb"), "0 1 2 3 4 5 6 7 8"}, {replaces(0, 8, "abcd"), "0 1 2 3 4 5 6 7 8"},
	} {
		for place, want := range strings.Fields(c.want) {
			got, code := impl.PlaceAfter(8, c.e, int64(place))
			is(t, fmt.Sprint("the place ", place, " behind ", editLine(c.e)), want+" 0", got, code)
		}
	}
}

// TestPromise17LongPlaces holds places of long words against those of short ones, all numbers being so many times as great.
func TestPromise17LongPlaces(t *testing.T) {
	for _, by := range []int64{1000, 1 << 40, impl.MaxLength / 40} {
		part := grammarOf(t, pieces{{"a", 3 * by}})
		w := mixedWord("abcd", 6, 9)
		for _, e := range allEdits(6, []impl.Grammar{gram("a\n0 0\n1 0\n")}) {
			if !fitsBy(e, 6) {
				continue
			}
			long := e
			long.I, long.J = by*e.I, by*e.J
			switch e.Kind {
			case impl.EdInsert:
				long.Part = part
			case impl.EdCopy, impl.EdMove:
				long.K = by * e.K
			}
			for place := range int64(7) {
				got, code := impl.PlaceAfter(6*by, long, by*place)
				says(t, fmt.Sprint("the place ", place, " times ", by, " behind ", editLine(e)), got, code, by*int64(placeBy(w, e, int(place))))
			}
		}
	}
	const n = impl.MaxLength
	for _, c := range []struct {
		length, place int64
		e             impl.Edit
		want          int64
	}{
		{n, n, deletes(0, n), 0}, {n, n, deletes(1, n), 1}, {n, n, repeats(0, 1, 0), n - 1}, {n, n, repeats(0, n, 0), 0}, {n, n, repeats(n, n, n), n}, {n, 0, repeats(0, 0, n), 0}, {1, 1, repeats(0, 1, n), n}, {2, 2, repeats(0, 1, n-1), n}, {2, 1, repeats(0, 1, n-1), n - 1}, {2, 0, repeats(0, 1, n-1), 0},
		{n / 2, n / 2, repeats(0, n/2, 2), n}, {n, 1, turns(0, n), n - 1}, {n, n - 1, moves(1, n, 0), n - 2}, {n, n, moves(1, n, 0), n}, {n, 1, moves(1, n, 0), n}, {n, n, copies(n, n, 0), n}, {n - 1, n - 1, inserts(0, gram("b\n")), n}, {n - 1, 0, inserts(0, gram("b\n")), 0}, {n, n, replaces(0, n, "aaaa"), n},
	} {
		got, code := impl.PlaceAfter(c.length, c.e, c.place)
		says(t, fmt.Sprint("the place ", c.place, " of ", c.length, " behind ", nameOf(c.e)), got, code, c.want)
	}
}

// TestPromise17PlaceErrors checks which error comes first.
func TestPromise17PlaceErrors(t *testing.T) {
	const n = impl.MaxLength
	one := gram("a\n")
	for _, c := range []struct {
		length, place int64
		e             impl.Edit
		code          int64
	}{
		{0, 0, impl.Edit{}, impl.ErrInvalid}, {-1, -1, impl.Edit{}, impl.ErrInvalid}, {n + 1, 5, deletes(2, 1), impl.ErrInvalid}, {n, 9, inserts(n, impl.Grammar{}), impl.ErrInvalid}, {3, 9, repeats(0, 1, n+1), impl.ErrInvalid},
		{-1, 0, deletes(0, 0), impl.ErrRange}, {-1, -1, deletes(0, 0), impl.ErrRange}, {least, 0, deletes(0, 0), impl.ErrRange}, {greatest, 0, deletes(0, 0), impl.ErrRange}, {n + 1, 0, deletes(0, 0), impl.ErrRange}, {n + 1, n + 1, deletes(0, 0), impl.ErrRange},
		{3, -1, deletes(0, 0), impl.ErrRange}, {3, 4, deletes(0, 0), impl.ErrRange}, {3, least, deletes(0, 0), impl.ErrRange}, {3, greatest, deletes(0, 0), impl.ErrRange}, {0, 1, deletes(0, 0), impl.ErrRange}, {n, n + 1, deletes(0, 0), impl.ErrRange},
		{3, 0, inserts(4, one), impl.ErrRange}, {3, 0, deletes(0, 4), impl.ErrRange}, {3, 0, deletes(4, 4), impl.ErrRange}, {3, 0, copies(0, 4, 0), impl.ErrRange}, {3, 0, copies(0, 3, 4), impl.ErrRange}, {3, 0, copies(0, 0, 4), impl.ErrRange}, {3, 0, moves(0, 3, 4), impl.ErrRange}, {3, 0, moves(0, 3, 1), impl.ErrRange}, {3, 0, moves(0, 4, 4), impl.ErrRange},
		{3, 0, turns(1, 4), impl.ErrRange}, {3, 0, repeats(1, 4, 1), impl.ErrRange}, {3, 0, replaces(1, 4, "abcd"), impl.ErrRange},
		{n, n + 1, inserts(0, one), impl.ErrRange}, {n, 0, copies(0, n, n), impl.ErrLimit}, {n, 0, inserts(0, one), impl.ErrLimit}, {n, 0, inserts(n, fullGrammar()), impl.ErrLimit}, {3, 9, repeats(0, 3, n), impl.ErrRange}, {2, 0, repeats(0, 3, n), impl.ErrRange}, {3, 0, repeats(0, 3, n), impl.ErrLimit}, {n, n, repeats(0, n, n), impl.ErrLimit}, {n - 1, 0, inserts(0, plainBy("ab")), impl.ErrLimit},
	} {
		failsWith(t, fmt.Sprint("the place ", c.place, " of ", c.length, " behind ", nameOf(c.e)), list(impl.PlaceAfter(c.length, c.e, c.place)), c.code)
	}
}
