package tests

import (
	"fmt"
	"slices"
	"strings"
	"testing"

	"loop.example/g01133/impl"
)

func TestExampleOfChapter7(t *testing.T) {
	is(t, "kinds and limits", "1 2 3 4 5 6 7 60 20000 120", impl.EdInsert, impl.EdDelete, impl.EdCopy, impl.EdMove, impl.EdTurn, impl.EdRepeat, impl.EdMap,
		impl.MaxEdits, impl.MaxScriptText, impl.MaxScriptLines)
	for text, want := range map[string]string{"move 0 2 5": "aabab", "repeat 0 2 3": "abababaab", "turn 1 4": "aaabb", "map 0 5 bacd": "babba"} {
		e, one := impl.ReadEdit(text)
		w, two := impl.EditPlain("abaab", e)
		g, three := impl.ApplyEdit(gram(example), e)
		is(t, text, "0 "+want+" 0 "+want+" 0", one, w, two, wordOf(g), three)
	}
	list, code := impl.DifferenceEdits(gram(example), plainBy("abbab"))
	is(t, "the difference", "0 2 delete 2 3 insert 2 b", code, len(list), impl.EditText(list[0]), impl.EditText(list[1]))
}

// someValidEdits returns valid edits, those at the limits, too.
func someValidEdits() []impl.Edit {
	const n = impl.MaxLength
	return edits(
		inserts(0, gram("a\n")), inserts(n, gram("d\n")), inserts(7, gram(example)), inserts(1, chain(impl.MaxRules)), inserts(n, fullGrammar()), inserts(5, gram("a\nb\nc\n")),
		deletes(0, 0), deletes(0, 1), deletes(n, n), deletes(0, n), deletes(3, 10),
		copies(0, 0, 0), copies(2, 3, 1), copies(n, n, n), copies(0, n, n), copies(0, n, 0), copies(1, 1, 9), copies(5, 20, 10),
		moves(0, 0, 0), moves(2, 3, 1), moves(n, n, n), moves(0, n, n), moves(5, 20, 10), moves(5, 20, 5), moves(5, 20, 20),
		turns(0, 0), turns(0, n), turns(n, n), turns(1, 2),
		repeats(0, 0, 0), repeats(0, n, n), repeats(3, 9, 0), repeats(n, n, 1), repeats(3, 9, 1), repeats(3, 9, 2),
		replaces(0, 0, "abcd"), replaces(0, n, "aaaa"), replaces(n, n, "dcba"), replaces(2, 30, "bbcd"),
	)
}

// someInvalidEdits returns edits that are not valid, for different reasons.
func someInvalidEdits() []impl.Edit {
	const n = impl.MaxLength
	one := gram("a\n")
	made := edits(impl.Edit{}, impl.Edit{Kind: 8}, impl.Edit{Kind: -1}, impl.Edit{Kind: greatest}, impl.Edit{Kind: least}, impl.Edit{Kind: 8, J: 3}, impl.Edit{Kind: 1 << 32, J: 3}, impl.Edit{I: 1, J: 2},
		inserts(0, impl.Grammar{}), inserts(0, rules([]impl.Rule{}...)), inserts(-1, one), inserts(n+1, one), inserts(least, one), inserts(greatest, one),
		deletes(1, 0), deletes(n, n-1), copies(1, 0, 0), copies(4, 3, 3), moves(1, 0, 1), turns(3, 2), repeats(1, 0, 1), replaces(2, 1, "abcd"))
	for _, bad := range invalidGrammars() {
		made = append(made, inserts(0, bad))
	}
	for _, e := range edits(deletes(2, 5), copies(2, 5, 1), moves(2, 5, 1), turns(2, 5), repeats(2, 5, 1), replaces(2, 5, "abcd")) {
		for _, number := range []int64{least, -n, -1, n + 1, 1 << 62, greatest} {
			for _, change := range []func(e *impl.Edit){
				func(e *impl.Edit) { e.I = number }, func(e *impl.Edit) { e.J = number }, func(e *impl.Edit) { e.K = number },
				func(e *impl.Edit) { e.I, e.J = number, number }, func(e *impl.Edit) { e.Kind = number },
			} {
				other := e
				change(&other)
				made = append(made, other)
			}
		}
	}
	// Fields that the table does not mention.
	for _, e := range edits(inserts(2, one), deletes(2, 5), turns(2, 5), replaces(2, 5, "abcd")) {
		e.K = 1
		made = append(made, e)
	}
	for _, j := range []int64{1, 2, 5, -1, n, n + 1} {
		e := inserts(2, one)
		e.J = j
		made = append(made, e)
	}
	for _, e := range edits(deletes(2, 5), copies(2, 5, 1), moves(2, 5, 1), turns(2, 5), repeats(2, 5, 1), replaces(2, 5, "abcd")) {
		e.Part = one
		made = append(made, e)
		e.Part = rules(impl.Rule{})
		made = append(made, e)
	}
	for _, e := range edits(inserts(2, one), deletes(2, 5), copies(2, 5, 1), moves(2, 5, 1), turns(2, 5), repeats(2, 5, 1)) {
		for _, letters := range []string{"abcd", "a", " "} {
			e.Map = letters
			made = append(made, e)
		}
	}
	for _, letters := range []string{"", "a", "abc", "abcda", "abce", "ebcd", "abcD", "ab d", "abc\n", "\x00\x00\x00\x00", "äb", "\xff\xff\xff\xff", "abcdabcd", strings.Repeat("a", 1000000)} {
		made = append(made, replaces(2, 5, letters), replaces(0, 0, letters))
	}
	return made
}

func TestPromise16ValidEdits(t *testing.T) {
	for _, e := range someValidEdits() {
		is(t, "ValidEdit of "+nameOf(e), "true", impl.ValidEdit(e))
	}
	for _, e := range someInvalidEdits() {
		is(t, "ValidEdit of "+nameOf(e), "false", impl.ValidEdit(e))
	}
	for _, e := range allEdits(3, []impl.Grammar{gram("a\n"), gram(example)}) {
		is(t, "ValidEdit of "+editLine(e), "true", impl.ValidEdit(e))
		e.Part.Rules = append([]impl.Rule{}, e.Part.Rules...)
		is(t, "ValidEdit of "+editLine(e), "true", impl.ValidEdit(e))
	}
}

func TestPromise16Texts(t *testing.T) {
	const most = "1000000000000000"
	for text, e := range map[string]impl.Edit{
		"insert 0 a":                       inserts(0, gram("a\n")),
		"insert 12 abaab":                  inserts(12, plainBy("abaab")),
		"insert " + most + " dc":           inserts(impl.MaxLength, plainBy("dc")),
		"delete 0 0":                       deletes(0, 0),
		"delete 3 10":                      deletes(3, 10),
		"delete 0 " + most:                 deletes(0, impl.MaxLength),
		"copy 1 22 333":                    copies(1, 22, 333),
		"copy " + most + " " + most + " 0": copies(impl.MaxLength, impl.MaxLength, 0),
		"move 10 20 15":                    moves(10, 20, 15),
		"move 0 0 " + most:                 moves(0, 0, impl.MaxLength),
		"turn 9 99":                        turns(9, 99),
		"repeat 0 1 " + most:               repeats(0, 1, impl.MaxLength),
		"repeat 5 6 0":                     repeats(5, 6, 0),
		"map 1 2 dcba":                     replaces(1, 2, "dcba"),
		"map 100000000000000 999999999999999 aaaa":       replaces(100000000000000, 999999999999999, "aaaa"),
		"insert 5 " + strings.Repeat("c", impl.MaxRules): inserts(5, plainBy(strings.Repeat("c", impl.MaxRules))),
	} {
		is(t, "EditText", text, impl.EditText(e))
		read, code := impl.ReadEdit(text)
		sameEdits(t, "ReadEdit of "+text, edits(read), code, edits(e))
	}
	for _, e := range allEdits(4, []impl.Grammar{plainBy("d"), plainBy("abaab"), plainBy("ccc")}) {
		is(t, "EditText", editLine(e), impl.EditText(e))
		read, code := impl.ReadEdit(editLine(e))
		sameEdits(t, "ReadEdit of "+editLine(e), edits(read), code, edits(e))
	}
	// A grammar that is not the plain one has the same text.
	for _, g := range append(smallGrammars(4), mixedGrammars(20, 300)...) {
		if len(g.Rules) > 0 {
			is(t, "EditText", editLine(inserts(3, g)), impl.EditText(inserts(3, g)))
			read, code := impl.ReadEdit(editLine(inserts(3, g)))
			sameEdits(t, "ReadEdit of "+editLine(inserts(3, g)), edits(read), code, edits(inserts(3, plainBy(wordOf(g)))))
		}
	}
}

// TestPromise16NoTexts checks edits that have no text, and those that just have one.
func TestPromise16NoTexts(t *testing.T) {
	for _, e := range someInvalidEdits() {
		is(t, "EditText of "+nameOf(e), "", impl.EditText(e))
	}
	long := doubled(plainBy(mixedWord("abcd", 125, 3)), 4)
	is(t, "EditText", "insert 8 "+wordOf(long), impl.EditText(inserts(8, long)))
	longer := rules(append(slices.Clone(long.Rules), pair(last(long), 0))...)
	is(t, "EditText of a word that is too long", "", impl.EditText(inserts(8, longer)))
	for _, g := range []impl.Grammar{fullGrammar(), fibonacci(), doubled(gram("c\n"), 11), doubled(gram("c\n"), 49)} {
		is(t, "EditText of a word that is too long", "", impl.EditText(inserts(0, g)))
	}
	// A word that has a text, but no plain grammar.
	for _, w := range []string{strings.Repeat("a", impl.MaxRules), strings.Repeat("a", impl.MaxRules+1), mixedWord("ab", 399, 1), mixedWord("ab", 400, 1), mixedWord("abcd", 397, 1), mixedWord("abcd", 398, 1), wordOf(long)} {
		read, code := impl.ReadEdit("insert 8 " + w)
		if want := plainBy(w); len(want.Rules) > impl.MaxRules {
			failsWith(t, "ReadEdit of a word with too many letters", list(read, code), impl.ErrSyntax)
		} else {
			sameEdits(t, "ReadEdit of a word with many letters", edits(read), code, edits(inserts(8, want)))
		}
	}
}

// wrongEditTexts returns texts of no edit, for different reasons.
func wrongEditTexts() []string {
	texts := []string{
		"", " ", "a", "0", "\n", "insert", "insert ", "insert 0", "insert 0 ", "insert  a", "insert a", "insert a 0", "insert 0  a", " insert 0 a", "insert 0 a ", "insert 0 a\n", "insert 0 a a", "insert 0 0 a", "insert 0 e", "insert 0 A", "insert 0 ab d",
		"insert 0 ä", "insert 0 \xff", "insert 0 a\x00", "insert 0\ta", "insert\t0 a", "Insert 0 a", "INSERT 0 a", "ins 0 a", "inserts 0 a", "insert,0,a", "insert 0 1", "insert 0 a\r",
		"delete", "delete 0", "delete 0 ", "delete 0 1 ", "delete 0 1 2", "delete 0 1 a", "delete 1 0", "delete a b", "delete  0 1", "delete 0  1", "deletee 0 1", "delete 0 1\n", "delete -1 1", "delete 0 -1", "delete -2 -1",
		"copy", "copy 0 1", "copy 0 1 ", "copy 1 0 0", "copy 0 1 2 3", "copy 0 1 a", "copy 0 1 -1", "copy 0  1 2",
		"move", "move 0 1", "move 0 1 ", "move 1 0 0", "move 0 1 2 3", "move 2 0 5", "move 0 1 2 ",
		"turn", "turn 0", "turn 0 1 2", "turn 1 0", "turn 0 1 ", "turn 0 1 abcd", "turned 0 1",
		"repeat", "repeat 0 1", "repeat 0 1 ", "repeat 1 0 3", "repeat 0 1 -1", "repeat 0 1 2 3", "repeat 0 1 1.0",
		"map", "map 0 1", "map 0 1 ", "map 0 1 abc", "map 0 1 abcda", "map 0 1 abce", "map 0 1 ABCD", "map 0 1 abcd ", "map 0 1 abcd a", "map 1 0 abcd", "map 0 1 2 abcd", "map 0 1  abcd", "map 0 1 1234", "map abcd", "map 0 abcd",
		"undo", "length", "word", "at 0", "0 1", " 0 1", "1 0 1", "kind 0 1", "delete\n0 1", "delete 0\n1", "delete 0 1\x00", "insert 0 a\ndelete 0 1",
	}
	for _, number := range []string{"00", "01", "007", "+1", "-0", "-1", "1.0", "1e3", "0x1", "1_0", " 1", "1 ", "", "a", "٣", "１", "\xff", "1\x00",
		"1000000000000001", "9999999999999999", "99999999999999999", "999999999999999999", "1000000000000000000", "9223372036854775807", "9223372036854775808", "18446744073709551616", "18446744073709551617",
		"36893488147419103233", "0000000000000000001", "000000000000000000", "00000000000000000000", strings.Repeat("0", 500), strings.Repeat("9", 500), strings.Repeat("1", 500000)} {
		for _, text := range []string{"insert N a", "delete N 1000000000000000", "delete 0 N", "copy N 5 5", "copy 0 N 5", "copy 0 5 N", "move N 5 5", "move 0 N 5", "move 0 5 N", "turn N 3", "turn 0 N", "repeat N 5 5", "repeat 0 N 5", "repeat 0 5 N", "map N 3 abcd", "map 0 N abcd"} {
			texts = append(texts, strings.Replace(text, "N", number, 1))
		}
	}
	return append(texts, "insert 0 "+strings.Repeat("a", impl.MaxRules+1), "insert 0 "+strings.Repeat("a", impl.MaxPlain), "insert 0 "+strings.Repeat("a", 1000000), "map 0 1 "+strings.Repeat("a", 1000000),
		strings.Repeat(" ", 1000000), "delete"+strings.Repeat(" 1", 500000), strings.Repeat("\xff", 1000000), strings.Repeat("delete 0 1\n", 90000))
}

func TestPromise16WrongTexts(t *testing.T) {
	for _, text := range wrongEditTexts() {
		e, code := impl.ReadEdit(text)
		failsWith(t, fmt.Sprintf("ReadEdit of %.60q", text), list(e, code), impl.ErrSyntax)
	}
	// A byte more or less, or another one, makes the text of another edit, or of none.
	for _, text := range []string{"insert 10 abc", "delete 2 13", "copy 0 2 5", "move 1 20 21", "turn 3 4", "repeat 1 2 30", "map 0 9 bacd"} {
		for k := range len(text) + 1 {
			for _, by := range []string{"", "a", "e", "0", "1", "9", " ", "\n", "-", "+", "\x00", "\xff"} {
				for _, changed := range []string{text[:k] + by + text[k:], text[:k] + by + text[min(k+1, len(text)):]} {
					e, code := impl.ReadEdit(changed)
					if code != impl.OK {
						failsWith(t, fmt.Sprintf("ReadEdit of %q", changed), list(e, code), impl.ErrSyntax)
					} else {
						is(t, "EditText of what is read", fmt.Sprint(changed, " true"), editLine(e), impl.ValidEdit(e))
					}
				}
			}
		}
	}
}

// editsLikePlain holds an edit of a grammar, and of its short word, against that of the letters, and against the table of pieces.
func editsLikePlain(t *testing.T, g impl.Grammar, w string, e impl.Edit) {
	t.Helper()
	made, code := impl.ApplyEdit(g, e)
	plain, other := impl.EditPlain(w, e)
	if !fitsBy(e, int64(len(w))) {
		failsWith(t, editLine(e)+" of "+w, list(made, code), impl.ErrRange)
		failsWith(t, editLine(e)+" of the plain word "+w, list(plain, other), impl.ErrRange)
		return
	}
	letters := lettersAlone(editedBy(w, e))
	if len(letters) > impl.MaxPlain {
		failsWith(t, editLine(e)+" of the plain word "+w, list(plain, other), impl.ErrLimit)
	} else if plain != letters || other != impl.OK {
		t.Errorf("%s of the plain word %.99s: got %.99s and the code %d, want %.99s", editLine(e), w, plain, other, letters)
	}
	joined, most := plainPieces(g, e)
	if most > impl.MaxRules {
		failsWith(t, editLine(e)+" of "+w, list(made, code), impl.ErrLimit)
		return
	}
	if want := trimmed(joined); code != impl.OK || !slices.Equal(made.Rules, want.Rules) || wordOf(made) != letters {
		t.Errorf("%s of %.99s: got %.300q and the code %d, want %.300q", editLine(e), w, textOf(made), code, textOf(want))
	}
}

func TestPromise16SmallWords(t *testing.T) {
	parts := []impl.Grammar{gram("b\n"), gram("a\nb\n1 0\n")}
	for _, g := range append(smallGrammars(3), gram(example), gram("d\nc\nb\na\n3 2\n1 0\n4 5\n"), gram("c\nc\n0 1\n2 2\n")) {
		w := wordOf(g)
		for _, e := range allEdits(int64(len(w))+1, parts) {
			editsLikePlain(t, g, w, e)
		}
	}
	for k, g := range smallGrammars(4) {
		w := wordOf(g)
		for l, e := range allEdits(int64(len(w))+1, parts) {
			if (k+l)%7 == 0 {
				editsLikePlain(t, g, w, e)
			}
		}
	}
	for _, w := range append(wordsUpTo("ab", 4), wordsUpTo("abc", 3)...) {
		for _, e := range allEdits(int64(len(w))+1, parts[:1]) {
			editsLikePlain(t, plainBy(w), w, e)
		}
	}
}

func TestPromise16LongerWords(t *testing.T) {
	for k, g := range slices.Concat(smallGrammars(4), mixedGrammars(30, 300), []impl.Grammar{plainBy(mixedWord("abcd", 99, 5)), plainBy(mixedWord("ab", 250, 6)), chain(200), chain(398), doubled(gram(example), 7)}) {
		w, next := wordOf(g), mixing(uint32(k))
		for range 12 {
			editsLikePlain(t, g, w, mixedEdit(int64(len(w)), next))
		}
	}
}

// TestPromise16ByHand tells by hand which rules are left.
func TestPromise16ByHand(t *testing.T) {
	for _, c := range []struct {
		text string
		e    impl.Edit
		want string
	}{
		{example, inserts(2, gram("c\n")), "a\nb\n0 1\nc\n2 3\n0 2\n4 5\n"},
		{example, inserts(0, gram("c\n")), "c\na\nb\n1 2\n3 1\n4 3\n0 5\n"},
		{example, inserts(5, gram("a\n")), "a\nb\n0 1\n2 0\n3 2\n4 0\n"},
		{example, inserts(1, gram("b\n0 0\nc\n")), "a\nb\nc\n0 2\n0 1\n1 0\n5 4\n3 6\n"},
		{example, deletes(1, 4), "a\nb\n0 1\n"},
		{example, deletes(2, 2), "a\nb\n0 1\n0 2\n2 3\n"},
		{example, deletes(0, 0), example},
		{example, deletes(0, 5), ""},
		{example, copies(0, 2, 5), "a\nb\n0 1\n2 0\n3 2\n4 2\n"},
		{example, moves(0, 2, 5), "a\nb\n0 1\n0 2\n3 2\n"},
		{example, moves(3, 5, 0), "a\nb\n0 1\n2 0\n2 3\n"},
		{example, turns(0, 5), "a\nb\n1 0\n0 2\n2 3\n"},
		{example, turns(1, 4), "a\nb\n0 1\n0 2\n0 3\n4 1\n"},
		{example, repeats(0, 2, 3), "a\nb\n0 1\n2 2\n3 2\n0 2\n4 5\n"},
		{example, repeats(0, 5, 2), "a\nb\n0 1\n2 0\n3 2\n4 4\n"},
		{example, repeats(0, 5, 0), ""},
		{example, replaces(0, 5, "bacd"), "b\na\n0 1\n2 0\n3 2\n"},
		{example, replaces(0, 5, "ccbb"), "c\n0 0\n1 0\n2 1\n"},
		{"", inserts(0, gram("a\nb\n0 0\n")), "a\n0 0\n"},
		{"", deletes(0, 0), ""},
		{"", moves(0, 0, 0), ""},
		{"", repeats(0, 0, impl.MaxLength), ""},
		{"", replaces(0, 0, "dddd"), ""},
		// Rules that are not used are left out, and equal ones made one.
		{"c\na\na\n1 2\n", deletes(0, 0), "a\n0 0\n"},
		{"c\na\na\n1 2\n", repeats(1, 1, 7), "a\n0 0\n"},
	} {
		made, code := impl.ApplyEdit(gram(c.text), c.e)
		sameGrammar(t, fmt.Sprintf("%s of %q", editLine(c.e), c.text), made, code, gram(c.want))
	}
}

// TestPromise16LongPlainWords edits plain words whose plain grammars would have too many rules.
func TestPromise16LongPlainWords(t *testing.T) {
	for k, w := range longWords() {
		next := mixing(uint32(k) + 77)
		w = w[:len(w)-next(4)*9]
		for range 60 {
			e := mixedEdit(int64(len(w)), next)
			made, code := impl.EditPlain(w, e)
			if !fitsBy(e, int64(len(w))) {
				failsWith(t, "EditPlain: "+editLine(e), list(made, code), impl.ErrRange)
				continue
			}
			if want := lettersAlone(editedBy(w, e)); len(want) > impl.MaxPlain {
				failsWith(t, "EditPlain: "+editLine(e), list(made, code), impl.ErrLimit)
			} else {
				is(t, "EditPlain: "+editLine(e), want+" 0", made, code)
			}
		}
	}
}

// TestPromise16PlainLimit checks plain words that become just as long as they may, and longer ones.
func TestPromise16PlainLimit(t *testing.T) {
	as := func(n int) string { return strings.Repeat("a", n) }
	long := doubled(gram("a\n"), 49)
	for _, c := range []struct {
		w    string
		e    impl.Edit
		want int64 // how many letters, or the error if it is negative
	}{
		{as(1999), inserts(1999, gram("b\n")), 2000},
		{as(2000), inserts(7, gram("b\n")), -impl.ErrLimit},
		{"", inserts(0, doubled(plainBy(as(125)), 4)), 2000},
		{"b", inserts(1, doubled(plainBy(as(125)), 4)), -impl.ErrLimit},
		{"", inserts(0, long), -impl.ErrLimit},
		{as(2000), inserts(2000, fullGrammar()), -impl.ErrLimit},
		{as(1000), copies(0, 1000, 500), 2000},
		{as(1001), copies(1, 1001, 500), -impl.ErrLimit},
		{as(1001), copies(1, 1000, 0), 2000},
		{as(2000), copies(3, 3, 9), 2000},
		{as(2000), copies(3, 4, 9), -impl.ErrLimit},
		{as(2000), moves(3, 1000, 2000), 2000},
		{as(2000), turns(0, 2000), 2000},
		{as(2000), replaces(0, 2000, "dcba"), 2000},
		{as(2000), repeats(0, 2000, 0), 0},
		{as(2000), repeats(0, 2000, 1), 2000},
		{as(2000), repeats(0, 2000, 2), -impl.ErrLimit},
		{as(2000), repeats(7, 7, impl.MaxLength), 2000},
		{as(2000), repeats(7, 8, 2), -impl.ErrLimit},
		{as(1000), repeats(0, 1, 1001), 2000},
		{as(1000), repeats(0, 1, 1002), -impl.ErrLimit},
		{as(1000), repeats(999, 1000, impl.MaxLength), -impl.ErrLimit},
		{as(2000), repeats(0, 2000, impl.MaxLength), -impl.ErrLimit},
		{as(2000), repeats(0, 2000, 9223372036854776), -impl.ErrInvalid},
		{as(2000), repeats(0, 1024, 1<<49), -impl.ErrLimit},
		{as(2000), deletes(0, 2000), 0},
		{"", repeats(0, 0, impl.MaxLength), 0},
		{"", inserts(1, long), -impl.ErrRange},
		{"", inserts(0, impl.Grammar{}), -impl.ErrInvalid},
		{as(2000), repeats(0, 2001, 2), -impl.ErrRange},
	} {
		made, code := impl.EditPlain(c.w, c.e)
		name := fmt.Sprintf("EditPlain of %d letters, and %s", len(c.w), nameOf(c.e))
		if c.want < 0 {
			failsWith(t, name, list(made, code), -c.want)
		} else {
			is(t, name, fmt.Sprint(c.want, " 0"), len(made), code)
		}
	}
}
