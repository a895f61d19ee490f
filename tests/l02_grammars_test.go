package tests

import (
	"fmt"
	"reflect"
	"slices"
	"strings"
	"testing"

	"loop.example/g01133/impl"
)

func TestExampleOfChapter2(t *testing.T) {
	g, one := impl.ReadGrammar(example)
	w, two := impl.UnpackWord(g)
	n, three := impl.LengthOf(g)
	d, four := impl.DepthOf(g)
	is(t, "the example", "0 abaab 0 5 0 4 0", one, w, two, n, three, d, four)
	p, code := impl.PartGrammar(g, 1, 4)
	is(t, "its part", "a\nb\n1 0\n2 0\n 0", impl.GrammarText(p), code)
	p, code = impl.PowerGrammar(g, 3)
	is(t, "its power", example+"4 4\n5 4\n 0", impl.GrammarText(p), code)
	is(t, "limits", "400 1000000000000000 20000", impl.MaxRules, impl.MaxLength, impl.MaxGrammarText)
}

func TestPromise4ValidGrammars(t *testing.T) {
	for _, g := range slices.Concat(someGrammars(), longGrammars(), []impl.Grammar{{Rules: []impl.Rule{}}}) {
		if !impl.ValidGrammar(g) {
			t.Errorf("%.100q is not valid", textOf(g))
		}
	}
	for i, g := range invalidGrammars() {
		if impl.ValidGrammar(g) {
			t.Errorf("the grammar %d, %.100q, is valid", i, textOf(g))
		}
	}
	for c := range 256 {
		if want := c >= 'a' && c <= 'd'; impl.ValidGrammar(rules(letter(string([]byte{byte(c)})))) != want {
			t.Errorf("the letter with the byte %d is not %v", c, want)
		}
	}
}

// TestPromise4GrammarsAtTheirLimits checks words of MaxLength letters and MaxRules rules, and one more.
func TestPromise4GrammarsAtTheirLimits(t *testing.T) {
	full := fullGrammar()
	n, code := impl.LengthOf(full)
	is(t, "the longest word", "1000000000000000 0 true", n, code, impl.ValidGrammar(full))
	more := rules(append(slices.Clone(full.Rules), pair(last(full), 0))...)
	less := rules(append(slices.Clone(more.Rules), letter("a"))...)
	is(t, "longer ones", "false false", impl.ValidGrammar(more), impl.ValidGrammar(less))
	is(t, "many rules", "true false", impl.ValidGrammar(chain(400)), impl.ValidGrammar(chain(401)))
	is(t, "many letters", "true false", impl.ValidGrammar(rules(slices.Repeat([]impl.Rule{letter("a")}, 400)...)),
		impl.ValidGrammar(rules(slices.Repeat([]impl.Rule{letter("a")}, 401)...)))
}

func TestPromise4SameGrammars(t *testing.T) {
	grammars := append(smallGrammars(3), impl.Grammar{Rules: []impl.Rule{}}, gram(example))
	grammars = append(grammars, invalidGrammars()[:20]...)
	for _, g := range grammars {
		for _, h := range grammars {
			want := len(g.Rules) == 0 && len(h.Rules) == 0 || reflect.DeepEqual(g, h)
			if impl.SameGrammar(g, h) != want {
				t.Errorf("%v and %v: not %v", g, h, want)
			}
		}
	}
	g := gram(example)
	for number := range g.Rules {
		for field := range 3 {
			h := rules(slices.Clone(g.Rules)...)
			rule := &h.Rules[number]
			is(t, "a copy", "true", impl.SameGrammar(g, h))
			switch field {
			case 0:
				rule.Letter += "c"
			case 1:
				rule.Left++
			case 2:
				rule.Right--
			}
			is(t, "a different grammar", "false false", impl.SameGrammar(g, h), impl.SameGrammar(h, g))
		}
	}
	is(t, "a beginning", "false false", impl.SameGrammar(g, rules(g.Rules[:4]...)), impl.SameGrammar(rules(g.Rules[:4]...), g))
	is(t, "large ones", "true false", impl.SameGrammar(chain(300000), chain(300000)), impl.SameGrammar(chain(300000), chain(299999)))
}

func TestPromise4TextsAndBack(t *testing.T) {
	for _, g := range slices.Concat(someGrammars(), longGrammars()) {
		text := impl.GrammarText(g)
		if text != textOf(g) {
			t.Errorf("the text of %v is %.200q", g, text)
		}
		back, code := impl.ReadGrammar(text)
		sameGrammar(t, "a text read again", back, code, g)
	}
	for _, g := range invalidGrammars() {
		if text := impl.GrammarText(g); text != "" {
			t.Errorf("the text of an invalid grammar is %.200q", text)
		}
	}
	g, code := impl.ReadGrammar("")
	is(t, "the empty text", "0 0", len(g.Rules), code)
}

func TestPromise4WrongTexts(t *testing.T) {
	texts := []string{
		"\n", "a", "a\n\n", "\na\n", "a\nb", "a\n0 0", "e\n", "A\n", "aa\n", " a\n", "a \n", "a\r\n", "\x00\n", "ä\n", "\xff\n", "a\n0 0\n ",
		"0 0\n", "a\n1 0\n", "a\n0 1\n", "a\n0\n", "a\n0 0 0\n", "a\n0  0\n", "a\n 0 0\n", "a\n0 0 \n", "a\n0\t0\n", "a\n00 0\n", "a\n0 00\n",
		"a\n+0 0\n", "a\n0 +0\n", "a\n-0 0\n", "a\n-1 0\n", "a\n0 -1\n", "a\n0x0 0\n", "a\n0 0x0\n", "a\n0_0 0\n", "a\n0.0 0\n", "a\n0,0\n",
		"a\na b\n", "a\na 0\n", "a\n0 a\n", "a\n \n", "a\n 0\n", "a\n0 \n", "a\n\n0 0\n", "a\n٠ ٠\n",
		"a\n0 9223372036854775807\n", "a\n0 9223372036854775808\n", "a\n0 18446744073709551616\n", "a\n-9223372036854775808 0\n",
		"a\n0 " + strings.Repeat("0", 300) + "\n", "a\n0 1" + strings.Repeat("0", 300) + "\n",
		textOf(chain(401)), textOf(doubled(rules(letter("a")), 50)), textOf(doubled(rules(letter("a")), 64)),
		strings.Repeat("a", 20000), strings.Repeat("a\n", 10000), strings.Repeat("\n", 20000), strings.Repeat(" ", 20000),
		textOf(chain(400))[1:],
	}
	for _, text := range texts {
		g, code := impl.ReadGrammar(text)
		failsWith(t, fmt.Sprintf("ReadGrammar of %.50q", text), list(g, code), impl.ErrSyntax)
	}
	for _, text := range []string{strings.Repeat("a\n", 10000) + "a", strings.Repeat("\x00", 20001), strings.Repeat("a\n", 500000), textOf(chain(400)) + strings.Repeat("\n", 20000)} {
		g, code := impl.ReadGrammar(text)
		failsWith(t, fmt.Sprintf("ReadGrammar of %d bytes", len(text)), list(g, code), impl.ErrRange)
	}
}

// TestPromise4ChangedTexts changes each byte of a text: it is then that of another grammar, or of none.
func TestPromise4ChangedTexts(t *testing.T) {
	for _, text := range []string{example, "c\nd\n1 0\n2 1\n3 3\n4 4\n5 5\n6 6\n7 7\n8 8\n9 9\n10 9\n"} {
		for place := range len(text) {
			for c := range 256 {
				for _, end := range []int{place, place + 1} {
					changed := text[:place] + string([]byte{byte(c)}) + text[end:]
					g, code := impl.ReadGrammar(changed)
					if code == impl.OK {
						is(t, "a changed text", changed+" true", textOf(g), impl.ValidGrammar(g))
					} else {
						failsWith(t, "a changed text", list(g, code), impl.ErrSyntax)
					}
					if h := gram(changed); textOf(h) == changed && impl.ValidGrammar(h) != (code == impl.OK) {
						t.Errorf("ReadGrammar of %q: got the code %d", changed, code)
					}
				}
			}
		}
	}
}

func TestPromise4LengthsAndDepths(t *testing.T) {
	for _, g := range someGrammars() {
		var lengths []int64
		var depths []int64
		for number, word := range wordsOf(g) {
			lengths = append(lengths, int64(len(word)))
			depth := int64(1)
			if rule := g.Rules[number]; rule.Letter == "" {
				depth += max(depths[rule.Left], depths[rule.Right])
			}
			depths = append(depths, depth)
		}
		all, code := impl.LengthsOf(g)
		same(t, "LengthsOf "+textOf(g), all, code, lengths)
		n, code := impl.LengthOf(g)
		is(t, "LengthOf "+textOf(g), fmt.Sprint(len(wordOf(g)), " 0"), n, code)
		depth := int64(0)
		if len(depths) > 0 {
			depth = depths[len(depths)-1]
		}
		d, code := impl.DepthOf(g)
		is(t, "DepthOf "+textOf(g), fmt.Sprint(depth, " 0"), d, code)
	}
	is(t, "the depth of a long chain", "400 0", list(impl.DepthOf(chain(400)))...)
	is(t, "the depth of one rule, a letter, behind others", "1 0", list(impl.DepthOf(gram("a\n0 0\nb\n")))...)
	is(t, "the depth without rules", "0 0", list(impl.DepthOf(impl.Grammar{}))...)
	is(t, "the length without rules", "0 0", list(impl.LengthOf(impl.Grammar{}))...)
	all, code := impl.LengthsOf(doubled(rules(letter("a")), 49))
	for number, length := range all {
		is(t, "a power of 2", fmt.Sprint(int64(1)<<number, " 0"), length, code)
	}
	f, _ := impl.LengthsOf(fibonacci())
	for number := 2; number < len(f); number++ {
		is(t, "a Fibonacci number", fmt.Sprint(f[number-1]+f[number-2]), f[number])
	}
}

func TestPromise4Letters(t *testing.T) {
	for _, g := range someGrammars() {
		word := wordOf(g)
		for i := range word {
			x, code := impl.LetterAt(g, int64(i))
			is(t, fmt.Sprint("LetterAt ", i, " of ", textOf(g)), word[i:i+1]+" 0", x, code)
		}
		for _, i := range []int64{least, -1, int64(len(word)), int64(len(word)) + 1, 1 << 32, greatest} {
			x, code := impl.LetterAt(g, i)
			failsWith(t, fmt.Sprint("LetterAt ", i, " of ", textOf(g)), list(x, code), impl.ErrRange)
		}
	}
	full := fullGrammar()
	for _, i := range []int64{0, 1, 2, 12345678901234, impl.MaxLength/2 + 1, impl.MaxLength - 2, impl.MaxLength - 1} {
		x, code := impl.LetterAt(full, i)
		is(t, fmt.Sprint("LetterAt ", i), "ab"[i%2:i%2+1]+" 0", x, code)
	}
	x, code := impl.LetterAt(full, impl.MaxLength)
	failsWith(t, "LetterAt the end", list(x, code), impl.ErrRange)
}

func TestPromise4Parts(t *testing.T) {
	for _, g := range append(smallGrammars(4), mixedGrammars(20, 30)...) {
		word := wordOf(g)
		for i := range len(word) + 1 {
			for j := i; j <= len(word); j++ {
				p, code := impl.UnpackPart(g, int64(i), int64(j))
				is(t, fmt.Sprint("UnpackPart ", i, j, " of ", textOf(g)), word[i:j]+" 0", p, code)
			}
		}
		w, code := impl.UnpackWord(g)
		is(t, "UnpackWord of "+textOf(g), word+" 0", w, code)
		n := int64(len(word))
		for _, r := range [][2]int64{{-1, n}, {-1, -1}, {least, 0}, {0, n + 1}, {n + 1, n + 1}, {n, n + 1}, {1, 0}, {n, n - 1}, {0, greatest}, {greatest, greatest}, {least, greatest}, {greatest, least}, {0, -1}} {
			p, code := impl.UnpackPart(g, r[0], r[1])
			failsWith(t, fmt.Sprint("UnpackPart ", r, " of ", textOf(g)), list(p, code), impl.ErrRange)
			h, code := impl.PartGrammar(g, r[0], r[1])
			failsWith(t, fmt.Sprint("PartGrammar ", r, " of ", textOf(g)), list(h, code), impl.ErrRange)
		}
	}
}

func TestPromise4LongParts(t *testing.T) {
	full := fullGrammar()
	for _, i := range []int64{0, 1, 511, 98765432109876, impl.MaxLength/2 - 1000, impl.MaxLength - 2001, impl.MaxLength - 2000, impl.MaxLength - 1999, impl.MaxLength - 1, impl.MaxLength} {
		for _, n := range []int64{0, 1, 2, 3, 255, 1999, 2000, 2001, 2002, 1 << 32, impl.MaxLength} {
			p, code := impl.UnpackPart(full, i, i+n)
			name := fmt.Sprint("UnpackPart of the longest word from ", i, " with ", n, " letters")
			switch {
			case i+n > impl.MaxLength:
				failsWith(t, name, list(p, code), impl.ErrRange)
			case n > impl.MaxPlain:
				failsWith(t, name, list(p, code), impl.ErrLimit)
			default:
				is(t, name, strings.Repeat("ab", 1001)[i%2:i%2+n]+" 0", p, code)
			}
		}
	}
	w, code := impl.UnpackWord(full)
	failsWith(t, "UnpackWord of the longest word", list(w, code), impl.ErrLimit)
	p, code := impl.UnpackPart(full, -1, impl.MaxLength)
	failsWith(t, "a long part that is none", list(p, code), impl.ErrRange)
	plain := gram(textOf(doubled(rules(letter("a")), 10)) + "4 10\n6 11\n7 12\n8 13\n9 14\n")
	w, code = impl.UnpackWord(plain)
	is(t, "UnpackWord of 2000 letters", strings.Repeat("a", 2000)+" 0", w, code)
	plain.Rules = append(plain.Rules, pair(15, 0))
	w, code = impl.UnpackWord(plain)
	failsWith(t, "UnpackWord of 2001 letters", list(w, code), impl.ErrLimit)
	p, code = impl.UnpackPart(plain, 1, 2001)
	is(t, "UnpackPart of 2000 letters", strings.Repeat("a", 2000)+" 0", p, code)
	w, code = impl.UnpackWord(chain(400))
	is(t, "UnpackWord of a long chain", strings.Repeat("a", 400)+" 0", w, code)
}

// TestPromise4FibonacciParts holds parts of the longest Fibonacci word against its beginning,
// which comes again behind each rule of it.
func TestPromise4FibonacciParts(t *testing.T) {
	g := fibonacci()
	start, second := "ab", "a"
	for len(start) < impl.MaxPlain {
		start, second = start+second, start
	}
	lengths, _ := impl.LengthsOf(g)
	for number := 25; number < len(lengths)-1; number++ {
		place := lengths[number]
		p, code := impl.UnpackPart(g, place, place+900)
		is(t, fmt.Sprint("the Fibonacci word from ", place), start[:900]+" 0", p, code)
	}
}
