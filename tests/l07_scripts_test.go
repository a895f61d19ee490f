package tests

import (
	"fmt"
	"regexp"
	"slices"
	"strconv"
	"strings"
	"testing"

	"loop.example/g01133/impl"
)

// answersBy returns what RunScript should answer to lines, from the functions that do the same.
func answersBy(g impl.Grammar, lines []string) string {
	place := regexp.MustCompile(`^at (0|[1-9][0-9]{0,17})$`)
	versions, applied, answers := []impl.Grammar{g}, 0, ""
	say := func(answer string, code int64) {
		if code != impl.OK {
			answer = "error " + impl.CodeName(code)
		}
		answers += answer + "\n"
	}
	for _, line := range lines {
		now := versions[len(versions)-1]
		e, code := impl.ReadEdit(line)
		switch {
		case code == impl.OK && applied == impl.MaxEdits:
			say("", impl.ErrLimit)
		case code == impl.OK:
			made, code := impl.ApplyEdit(now, e)
			if code == impl.OK {
				versions, applied = append(versions, made), applied+1
			}
			say("ok", code)
		case line == "undo" && len(versions) == 1:
			say("", impl.ErrState)
		case line == "undo":
			versions = versions[:len(versions)-1]
			say("ok", impl.OK)
		case line == "length":
			n, code := impl.LengthOf(now)
			say(strconv.FormatInt(n, 10), code)
		case line == "word":
			say(impl.UnpackWord(now))
		case place.MatchString(line):
			i, _ := strconv.ParseInt(line[3:], 10, 64)
			say(impl.LetterAt(now, i))
		default:
			say("what", impl.OK)
		}
	}
	return answers
}

// scriptTexts returns the texts that have these lines: with and without a newline at the end.
func scriptTexts(lines []string) []string {
	text := strings.Join(lines, "\n")
	switch {
	case len(lines) == 0:
		return []string{text}
	case lines[len(lines)-1] == "":
		// Without a newline at the end, the last line would not be one.
		return []string{text + "\n"}
	}
	return []string{text, text + "\n"}
}

// answers checks what RunScript answers to lines.
func answers(t *testing.T, g impl.Grammar, lines []string, want string) {
	t.Helper()
	for _, text := range scriptTexts(lines) {
		got, code := impl.RunScript(g, text)
		if code != impl.OK || got != want {
			t.Errorf("RunScript of %.900q: got %.900q and the code %d, want %.900q", text, got, code, want)
		}
	}
}

// mixedLine returns a line of a script without an evident order.
func mixedLine(n int64, next func(n int) int) string {
	switch next(8) {
	case 0:
		return "undo"
	case 1:
		return "length"
	case 2:
		return "word"
	case 3:
		return fmt.Sprint("at ", next(int(n)+2))
	case 4:
		wrong := wrongLines()
		return wrong[next(len(wrong))]
	}
	return editLine(mixedEdit(n, next))
}

// wrongLines returns lines that are answered by "what", for different reasons.
func wrongLines() []string {
	return []string{
		"", " ", "what", "foo", "ok", "Undo", "UNDO", "undo ", " undo", "undo 1", "undoundo", "length ", " length", "length 0", "len", "word ", " word", "word 0", "words", "at", "at ", "at  0", "at 0 ", " at 0", "at 0 1", "at a", "at -1", "at -0", "at +1", "at 1.0", "at 0x1", "at 1_0", "at\t0", "At 0",
		"at 00", "at 01", "at 007", "at 1000000000000000000", "at 1234567890123456789", "at 0000000000000000000", "at 0000000000000000001", "at 9223372036854775808", "at 18446744073709551616", "at 99999999999999999999999", "at ٣", "undo\r", "length\x00", "\xff", "ä", "insert 0 ", "insert 0", "insert 0 e", "delete 2 1", "copy 0 1", "turn 0 1 2 3", "map 0 1 abc", "delete 00 1", "delete 0 1000000000000001",
		"insert 0 " + strings.Repeat("a", impl.MaxRules+1), "insert 0  a", "error range", "repeat 0 1", "repeat 0 1 -1",
	}
}

func TestPromise18Scripts(t *testing.T) {
	for seed := range 250 {
		next := mixing(uint32(seed*7 + 1))
		g := mixedGrammar(1+next(20), 40, uint32(seed))
		var lines []string
		for range 1 + next(impl.MaxScriptLines) {
			lines = append(lines, mixedLine(25, next))
		}
		answers(t, g, lines, answersBy(g, lines))
	}
	for k, w := range hugeWords() {
		g := grammarOf(t, w)
		var lines []string
		for _, c := range longEdits(t, w, uint32(k+400)) {
			if c.e.Kind != impl.EdInsert {
				lines = append(lines, editLine(c.e), "length", fmt.Sprint("at ", w.length()/3), []string{"undo", "word", "turn 1 5", "undo", "at 0"}[len(lines)%5])
			}
		}
		lines = lines[:min(len(lines), impl.MaxScriptLines)]
		answers(t, g, lines, answersBy(g, lines))
	}
}

func TestPromise18ByHand(t *testing.T) {
	for script, want := range map[string]string{
		"":                              "",
		"word|length":                   "abaab|5",
		"move 0 2 5|word|undo|word":     "ok|aabab|ok|abaab",
		"repeat 0 2 3|length|at 6|at 9": "ok|9|a|error range",
		"turn 1 4|map 0 5 bacd|word|undo|word|undo|word|undo": "ok|ok|bbbaa|ok|aaabb|ok|abaab|error state",
		"undo|undo":                             "error state|error state",
		"delete 0 5|word|length|at 0|undo|word": "ok||0|error range|ok|abaab",
		"delete 0 6|undo|insert 5 d|insert 7 d|undo|word|undo":                                               "error range|error state|ok|error range|ok|abaab|error state",
		"at 0|at 1|at 4|at 5|at 999999999999999999|at 1000000000000000000|at 100000":                         "a|b|b|error range|error range|what|error range",
		"repeat 0 5 200000000000000|length|word|at 999999999999999|at 1000000000000000|insert 0 a|undo|word": "ok|1000000000000000|error limit|b|error range|error limit|ok|abaab",
		"repeat 0 5 200000000000001|word":                                                                    "error limit|abaab",
		"repeat 0 5 400|word|undo|repeat 0 5 400|insert 0 c|word|length|undo|at 1999":                        "ok|" + strings.Repeat("abaab", 400) + "|ok|ok|ok|error limit|2001|ok|b",
		"what||foo|insert 0 |delete 1 0|map 0 1 abce":                                                        "what|what|what|what|what|what",
		"insert 0 c|insert 1 d|undo|insert 1 b|undo|undo|undo|word":                                          "ok|ok|ok|ok|ok|ok|error state|abaab",
		"copy 0 5 9|copy 0 5 0|move 0 5 3|move 0 5 5|move 1 3 2|length":                                      "error range|ok|error range|ok|error range|10",
		"||": "what|what|what",
	} {
		var lines []string
		if script != "" {
			lines = strings.Split(script, "|")
			want = strings.ReplaceAll(want, "|", "\n") + "\n"
		}
		answers(t, gram(example), lines, want)
		is(t, "what is held against", want, answersBy(gram(example), lines))
	}
	for _, line := range wrongLines() {
		answers(t, gram(example), []string{"word", line, "word"}, "abaab\nwhat\nabaab\n")
	}
	for text, want := range map[string]string{"\n": "what\n", "\n\n": "what\nwhat\n", "word\n": "abaab\n", "\nword": "what\nabaab\n", "word\n\n": "abaab\nwhat\n", "word\r\nword": "what\nabaab\n", "word\n ": "abaab\nwhat\n"} {
		is(t, fmt.Sprintf("RunScript of %q", text), want+" 0", list(impl.RunScript(gram(example), text))...)
	}
	// The empty word, and a grammar that is not trimmed.
	answers(t, impl.Grammar{}, strings.Split("word|length|at 0|undo|delete 0 0|undo|undo|insert 0 ab|word|insert 3 a", "|"), "\n0\nerror range\nerror state\nok\nok\nerror state\nok\nab\nerror range\n")
	answers(t, gram("a\nb\n"), []string{"word", "length"}, "b\n1\n")
}

// TestPromise18MaxEdits checks that undone edits count, and those that are answered by an error do not.
func TestPromise18MaxEdits(t *testing.T) {
	g := gram(example)
	var lines []string
	want := ""
	add := func(times int, line, answer string) {
		lines, want = append(lines, slices.Repeat([]string{line}, times)...), want+strings.Repeat(answer+"\n", times)
	}
	add(20, "insert 5 c", "ok")
	add(3, "delete 50 60", "error range")
	add(10, "undo", "ok")
	add(39, "insert 5 d", "ok")
	add(1, "word", "abaab"+strings.Repeat("d", 39)+strings.Repeat("c", 10))
	add(1, "undo", "ok")
	add(1, "insert 500 d", "error range")
	add(1, "turn 0 1", "ok")
	add(2, "turn 0 1", "error limit")
	add(1, "insert 500 d", "error limit")
	add(1, "turn 1 0", "what")
	add(1, "undo", "ok")
	add(1, "delete 0 0", "error limit")
	add(1, "length", "53")
	add(30, "undo", "ok")
	add(1, "repeat 0 0 1", "error limit")
	add(1, "length", "23")
	answers(t, g, lines, want)
	is(t, "what is held against", want, answersBy(g, lines))
	lines, want = nil, ""
	add(impl.MaxEdits, "delete 0 0", "ok")
	add(impl.MaxEdits, "undo", "ok")
	answers(t, g, lines, want)
	lines, want = nil, ""
	add(impl.MaxEdits-1, "delete 9 9", "error range")
	add(impl.MaxEdits, "delete 0 0", "ok")
	add(1, "delete 0 0", "error limit")
	answers(t, g, lines, want)
}

// limitScript is a text that is just at the limits of scripts, or beyond one of them.
type limitScript struct {
	text string
	code int64
}

// limitScripts returns texts with so many bytes and lines as there may be, and more, a line being repeated in some of them.
func limitScripts(line string) []limitScript {
	return []limitScript{
		{strings.Repeat("\n", impl.MaxScriptLines), impl.OK}, {strings.Repeat("\n", impl.MaxScriptLines+1), impl.ErrRange}, {strings.Repeat("\n", impl.MaxScriptLines) + "a", impl.ErrRange}, {strings.Repeat("\n", impl.MaxScriptLines-1) + "a", impl.OK},
		{strings.Repeat(line+"\n", impl.MaxScriptLines), impl.OK}, {strings.Repeat(line+"\n", impl.MaxScriptLines) + line, impl.ErrRange}, {strings.Repeat(line+"\n", impl.MaxScriptLines-1) + line, impl.OK},
		{strings.Repeat("a", impl.MaxScriptText), impl.OK}, {strings.Repeat("a", impl.MaxScriptText+1), impl.ErrRange}, {strings.Repeat("a", impl.MaxScriptText-1) + "\n", impl.OK}, {strings.Repeat("a", impl.MaxScriptText) + "\n", impl.ErrRange}, {strings.Repeat("a", 1000000), impl.ErrRange}, {strings.Repeat("\n", 1000000), impl.ErrRange},
		{strings.Repeat(strings.Repeat("x", 165)+"\n", 120) + strings.Repeat("x", 80), impl.ErrRange}, {strings.Repeat(strings.Repeat("x", 167)+"\n", 119) + strings.Repeat("x", 8), impl.OK}, {strings.Repeat(strings.Repeat("x", 167)+"\n", 119) + strings.Repeat("x", 9), impl.ErrRange},
		{strings.Repeat("ä", impl.MaxScriptText/2), impl.OK}, {strings.Repeat("ä", impl.MaxScriptText/2) + "a", impl.ErrRange}, {strings.Repeat("\xff", impl.MaxScriptText), impl.OK},
	}
}

// keepsLimits checks what a function answers to texts that are at the limits of scripts, and to longer ones.
func keepsLimits(t *testing.T, name, line string, run func(text string) (string, int64), answersBy func(lines []string) string) {
	t.Helper()
	for _, c := range limitScripts(line) {
		said, code := run(c.text)
		one := fmt.Sprintf("%s of %d bytes, %.20q", name, len(c.text), c.text)
		if c.code != impl.OK {
			failsWith(t, one, list(said, code), c.code)
			continue
		}
		lines := strings.Split(strings.TrimSuffix(c.text, "\n"), "\n")
		is(t, one, answersBy(lines)+" 0", said, code)
		is(t, "the number of answers", fmt.Sprint(len(lines)), strings.Count(said, "\n"))
	}
}

func TestPromise18ScriptLimits(t *testing.T) {
	g := gram(example)
	run := func(text string) (string, int64) { return impl.RunScript(g, text) }
	keepsLimits(t, "RunScript", "word", run, func(lines []string) string { return answersBy(g, lines) })
	for _, bad := range invalidGrammars() {
		for _, text := range []string{"", "word", strings.Repeat("a", impl.MaxScriptText+1), strings.Repeat("\n", impl.MaxScriptLines+1)} {
			failsWith(t, "RunScript of an invalid grammar", list(impl.RunScript(bad, text)), impl.ErrInvalid)
		}
	}
	// As many edits as there may be, of words that are as long as a line allows.
	long := strings.Repeat("abaab", 66)[:328]
	var lines []string
	for k := range impl.MaxEdits {
		lines = append(lines, "insert "+strconv.Itoa(k%5)+" "+long[:300])
	}
	for range impl.MaxEdits {
		lines = append(lines, "length")
	}
	answers(t, g, lines, answersBy(g, lines))
}
