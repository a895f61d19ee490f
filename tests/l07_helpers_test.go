package tests

import (
	"fmt"
	"slices"
	"strings"
	"testing"

	"loop.example/g01133/impl"
)

// inserts, deletes and the others return edits, valid or not.
func inserts(i int64, part impl.Grammar) impl.Edit {
	return impl.Edit{Kind: impl.EdInsert, I: i, Part: part}
}

func deletes(i, j int64) impl.Edit    { return impl.Edit{Kind: impl.EdDelete, I: i, J: j} }
func copies(i, j, k int64) impl.Edit  { return impl.Edit{Kind: impl.EdCopy, I: i, J: j, K: k} }
func moves(i, j, k int64) impl.Edit   { return impl.Edit{Kind: impl.EdMove, I: i, J: j, K: k} }
func turns(i, j int64) impl.Edit      { return impl.Edit{Kind: impl.EdTurn, I: i, J: j} }
func repeats(i, j, k int64) impl.Edit { return impl.Edit{Kind: impl.EdRepeat, I: i, J: j, K: k} }
func replaces(i, j int64, letters string) impl.Edit {
	return impl.Edit{Kind: impl.EdMap, I: i, J: j, Map: letters}
}

// edits returns a list of edits.
func edits(list ...impl.Edit) []impl.Edit { return list }

// editLine returns the text of an edit whose Part has a short word, without EditText.
func editLine(e impl.Edit) string {
	switch e.Kind {
	case impl.EdInsert:
		return fmt.Sprintf("insert %d %s", e.I, wordOf(e.Part))
	case impl.EdDelete:
		return fmt.Sprintf("delete %d %d", e.I, e.J)
	case impl.EdCopy:
		return fmt.Sprintf("copy %d %d %d", e.I, e.J, e.K)
	case impl.EdMove:
		return fmt.Sprintf("move %d %d %d", e.I, e.J, e.K)
	case impl.EdTurn:
		return fmt.Sprintf("turn %d %d", e.I, e.J)
	case impl.EdRepeat:
		return fmt.Sprintf("repeat %d %d %d", e.I, e.J, e.K)
	case impl.EdMap:
		return fmt.Sprintf("map %d %d %s", e.I, e.J, e.Map)
	}
	return ""
}

// nameOf tells of an edit, whatever its Part is.
func nameOf(e impl.Edit) string {
	return fmt.Sprintf("the edit %d %d %d %d %.20q with %d rules", e.Kind, e.I, e.J, e.K, e.Map, len(e.Part.Rules))
}

// memoryOfEdit tells all that an edit has, and what is in the memory of its rules.
func memoryOfEdit(e impl.Edit) string {
	return fmt.Sprintln(e.Kind, e.I, e.J, e.K, e.Map) + memoryOf(e.Part.Rules)
}

// sameEdits holds edits and a code against what they should be, rule by rule.
func sameEdits(t *testing.T, name string, got []impl.Edit, code int64, want []impl.Edit) {
	t.Helper()
	same := func(e, f impl.Edit) bool {
		return e.Kind == f.Kind && e.I == f.I && e.J == f.J && e.K == f.K && e.Map == f.Map && slices.Equal(e.Part.Rules, f.Part.Rules)
	}
	if code != impl.OK || !slices.EqualFunc(got, want, same) {
		t.Errorf("%s: got %.600v and the code %d, want %.600v", name, got, code, want)
	}
}

// fitsBy reports whether a word of n letters has what an edit mentions.
func fitsBy(e impl.Edit, n int64) bool {
	isPart := e.I <= e.J && e.J <= n
	switch e.Kind {
	case impl.EdInsert:
		return e.I <= n
	case impl.EdCopy:
		return isPart && e.K <= n
	case impl.EdMove:
		before, behind := e.K <= e.I, e.J <= e.K && e.K <= n
		return isPart && (before || behind)
	}
	return isPart
}

// mark is a letter of an edited word, with the place that it had before; -1 if it is a new one.
type mark struct {
	letter byte
	from   int
}

// marked returns the letters of a word at their places, and fresh new ones.
func marked(w string) []mark {
	var all []mark
	for i := range len(w) {
		all = append(all, mark{w[i], i})
	}
	return all
}

func fresh(list []mark) []mark {
	list = slices.Clone(list)
	for k := range list {
		list[k].from = -1
	}
	return list
}

// editedBy returns the letters of a short word behind an edit that fits.
func editedBy(w string, e impl.Edit) []mark {
	all := marked(w)
	if e.Kind == impl.EdInsert {
		return slices.Insert(all, int(e.I), fresh(marked(wordOf(e.Part)))...)
	}
	i, j, k := int(e.I), int(e.J), int(e.K)
	part := slices.Clone(all[i:j])
	switch e.Kind {
	case impl.EdDelete:
		return slices.Delete(all, i, j)
	case impl.EdCopy:
		return slices.Insert(all, k, fresh(part)...)
	case impl.EdMove:
		// Something stands where the part will be, while it is removed.
		all = slices.Insert(all, k, mark{'-', -2})
		all = slices.DeleteFunc(all, func(m mark) bool { return i <= m.from && m.from < j })
		at := slices.Index(all, mark{'-', -2})
		return slices.Replace(all, at, at+1, part...)
	case impl.EdTurn:
		slices.Reverse(all[i:j])
	case impl.EdRepeat:
		if k == 0 || i == j {
			return slices.Delete(all, i, j)
		}
		return slices.Insert(all, j, slices.Repeat(fresh(part), k-1)...)
	case impl.EdMap:
		for at := i; at < j; at++ {
			all[at].letter = e.Map[strings.IndexByte("abcd", all[at].letter)]
		}
	}
	return all
}

// lettersAlone returns the word of letters.
func lettersAlone(list []mark) string {
	var word strings.Builder
	for _, m := range list {
		word.WriteByte(m.letter)
	}
	return word.String()
}

// turnedRules returns the rules of TurnGrammar.
func turnedRules(g impl.Grammar) impl.Grammar {
	made := rules(slices.Clone(g.Rules)...)
	for number, rule := range g.Rules {
		made.Rules[number].Left, made.Rules[number].Right = rule.Right, rule.Left
	}
	return made
}

// mappedRules returns the rules of MapLetters with a map.
func mappedRules(g impl.Grammar, letters string) impl.Grammar {
	made, _ := mappedBy(g, strings.Split(letters, ""))
	return trimmed(made)
}

// piecesOf returns the grammars of the pieces of a word of n letters behind an edit, as the table of chapter 7 tells them.
func piecesOf(n int64, e impl.Edit, part func(i, j int64) impl.Grammar) []impl.Grammar {
	switch e.Kind {
	case impl.EdInsert:
		return []impl.Grammar{part(0, e.I), e.Part, part(e.I, n)}
	case impl.EdDelete:
		return []impl.Grammar{part(0, e.I), part(e.J, n)}
	case impl.EdCopy:
		return []impl.Grammar{part(0, e.K), part(e.I, e.J), part(e.K, n)}
	case impl.EdMove:
		if e.K <= e.I {
			return []impl.Grammar{part(0, e.K), part(e.I, e.J), part(e.K, e.I), part(e.J, n)}
		}
		return []impl.Grammar{part(0, e.I), part(e.J, e.K), part(e.I, e.J), part(e.K, n)}
	case impl.EdTurn:
		return []impl.Grammar{part(0, e.I), turnedRules(part(e.I, e.J)), part(e.J, n)}
	case impl.EdRepeat:
		return []impl.Grammar{part(0, e.I), poweredBy(part(e.I, e.J), e.K), part(e.J, n)}
	}
	return []impl.Grammar{part(0, e.I), mappedRules(part(e.I, e.J), e.Map), part(e.J, n)}
}

// joinedByPieces returns what pieces are joined to, before it is trimmed, and the greatest number of rules on the way.
func joinedByPieces(pieces []impl.Grammar) (impl.Grammar, int) {
	var g impl.Grammar
	most := 0
	for _, piece := range pieces {
		g = joinedBy(g, piece)
		most = max(most, len(piece.Rules), len(g.Rules))
	}
	return g, most
}

// plainPieces returns what the pieces of a short word behind an edit are joined to, before it is trimmed, and the
// greatest number of rules on the way, those of the parts, too.
func plainPieces(g impl.Grammar, e impl.Edit) (impl.Grammar, int) {
	most := 0
	part := func(i, j int64) impl.Grammar {
		made := partBy(g, int(i), int(j))
		most = max(most, len(made.Rules))
		return made
	}
	joined, joins := joinedByPieces(piecesOf(int64(len(wordOf(g))), e, part))
	return joined, max(most, joins)
}

// allEdits returns all valid edits with numbers up to n, these grammars being inserted.
func allEdits(n int64, parts []impl.Grammar) []impl.Edit {
	var made []impl.Edit
	for i := range n + 1 {
		for _, part := range parts {
			made = append(made, inserts(i, part))
		}
		for j := i; j <= n; j++ {
			made = append(made, deletes(i, j), turns(i, j))
			for _, letters := range []string{"abcd", "bacd", "aaaa", "dcba", "ccaa"} {
				made = append(made, replaces(i, j, letters))
			}
			for k := range n + 1 {
				made = append(made, copies(i, j, k), moves(i, j, k), repeats(i, j, k))
			}
		}
	}
	return made
}

// mixedEdit returns an edit of a word of n letters without an evident order, which fits unless it is one of a few.
func mixedEdit(n int64, next func(n int) int) impl.Edit {
	if next(12) == 0 {
		n += 1 + int64(next(3))*n
	}
	number := func() int64 { return int64(next(65536)) * (n + 1) / 65536 }
	i, j, k := number(), number(), number()
	if i > j {
		i, j = j, i
	}
	switch next(7) {
	case 0:
		return inserts(k, plainBy(mixedWord("abcd", 1+next(6), uint32(next(65536)))))
	case 1:
		return deletes(i, j)
	case 2:
		return copies(i, j, k)
	case 3:
		if i < k && k < j {
			k = []int64{i, j, 0, n}[next(4)]
		}
		return moves(i, j, k)
	case 4:
		return turns(i, j)
	case 5:
		return repeats(i, j, int64(next(4)))
	}
	return replaces(i, j, mixedWord("abcd", 4, uint32(next(65536))))
}

// sameWords checks that two grammars have the same word, however long it is.
func sameWords(t *testing.T, name string, g, h impl.Grammar) {
	t.Helper()
	if same, code := impl.EqualWords(g, h); !same || code != impl.OK {
		n, _ := impl.LengthOf(g)
		m, _ := impl.LengthOf(h)
		t.Errorf("%s: the words of %d and %d letters are not equal, the code is %d", name, n, m, code)
	}
}

// editOne returns the grammar behind an edit that can be applied.
func editOne(t *testing.T, g impl.Grammar, e impl.Edit) impl.Grammar {
	t.Helper()
	made, code := impl.ApplyEdit(g, e)
	if code != impl.OK {
		t.Fatalf("ApplyEdit of %s: got the code %d", nameOf(e), code)
	}
	return made
}

// editAll returns the grammar behind edits that can all be applied.
func editAll(t *testing.T, g impl.Grammar, list []impl.Edit) impl.Grammar {
	t.Helper()
	for _, e := range list {
		if !impl.ValidEdit(e) {
			t.Fatalf("%s is not valid", nameOf(e))
		}
		g = editOne(t, g, e)
	}
	return g
}

// crowded returns a grammar of a word twice, and the length n of both. Its part from 1 to n needs 400 rules for the
// letters "ab", and 401 for "abc": see TestPromise5PartsAtTheirLimit.
func crowded(letters string) (impl.Grammar, int64) {
	w := "abb" + mixedWord(letters, 197, 1)
	g := plainBy(w)
	g.Rules = append(g.Rules, pair(last(g), last(g)))
	return g, int64(2 * len(w))
}
