package tests

import (
	"fmt"
	"regexp"
	"slices"
	"strconv"
	"strings"
	"testing"

	"loop.example/g01133/impl"
)

// storeQuestion is what a line of a script may ask, if there are such a server and such a name.
var storeQuestion = regexp.MustCompile(`^(?:length (\d) (\d)|versions (\d)|missing (\d))$`)

// storeAnswers returns what RunStore should answer to lines, from the functions that do the same.
func storeAnswers(d impl.Depot, lines []string) string {
	var answers strings.Builder
	var done []impl.Deed
	for _, line := range lines {
		answer := "what"
		if one, code := impl.ReadDeed(line); code == impl.OK {
			answer = "ok"
			if at, bad, code := impl.RefusedDeed(d, append(slices.Clone(done), one)); code == impl.OK && at == int64(len(done)) {
				answer = "error " + impl.CodeName(bad)
			} else {
				done = append(done, one)
			}
		}
		if found := storeQuestion.FindStringSubmatch(line); found != nil {
			var numbers []int64
			for _, digit := range found[1:] {
				n, _ := strconv.ParseInt(digit, 10, 64)
				numbers = append(numbers, n)
			}
			answer = storeAnswer(d, done, line, numbers)
		}
		answers.WriteString(answer + "\n")
	}
	return answers.String()
}

// storeAnswer returns the answer to a question behind deeds.
func storeAnswer(d impl.Depot, done []impl.Deed, line string, numbers []int64) string {
	var made []int64
	var code int64
	switch line[0] {
	case 'l':
		g, code := impl.ReadName(d, done, numbers[0], numbers[1])
		if code == impl.ErrNotFound {
			return "none"
		} else if code != impl.OK {
			return "what"
		}
		n, _ := impl.LengthOf(g)
		return fmt.Sprint(n)
	case 'v':
		made, code = impl.VersionsAfter(d, done, numbers[2])
	default:
		made, code = impl.MissingAfter(d, done, numbers[3])
	}
	if code != impl.OK {
		return "what"
	} else if len(made) == 0 {
		return "-"
	}
	return strings.Trim(fmt.Sprint(made), "[]")
}

// storeSays checks what RunStore answers to lines.
func storeSays(t *testing.T, d impl.Depot, lines []string, want string) {
	t.Helper()
	for _, text := range scriptTexts(lines) {
		got, code := impl.RunStore(d, text)
		if code != impl.OK || got != want {
			t.Errorf("RunStore of %.900q: got %.900q and the code %d, want %.900q", text, got, code, want)
		}
	}
}

// wrongStoreLines returns lines that are answered by "what", for different reasons, at a depot of 3 servers and 2 names.
func wrongStoreLines() []string {
	lines := []string{
		"", " ", "what", "ok", "-", "none", "length", "length ", "length 0", "length 0 ", "length 0 0 ", " length 0 0", "length  0 0", "length 0  0", "length 0 0 0", "length 0,0", "Length 0 0", "LENGTH 0 0", "lengths 0 0", "length 3 0", "length 0 2", "length 3 2", "length 4 0", "length 0 999",
		"length 00 0", "length 0 00", "length 01 0", "length 0 01", "length +0 0", "length 0 +1", "length -0 0", "length 0 -0", "length -1 0", "length 0 -1", "length a 0", "length 0 a", "length 0\t0", "length\t0 0", "length 0x0 0", "length 0.0 0", "length 0 0\r", "length 0 0\x00", "length ٠ 0", "length １ 0",
		"versions", "versions ", "versions  0", " versions 0", "versions 0 ", "versions 0 0", "versions 2", "versions 3", "versions 999", "versions 00", "versions 01", "versions +0", "versions -0", "versions -1", "versions a", "version 0", "Versions 0", "versions 1000000000000000000000", "versions 18446744073709551616",
		"missing", "missing ", "missing  0", " missing 0", "missing 0 ", "missing 0 0", "missing 3", "missing 4", "missing 999", "missing 00", "missing 01", "missing +0", "missing -1", "missing a", "misses 0", "missing 0\r", "missing 4294967296", "missing 36893488147419103232", "word 0", "undo", "at 0", "read 0 0", "\xff", "ä", "spread 0",
	}
	for _, text := range wrongDeedTexts() {
		if !strings.Contains(text, "\n") && len(text) < 200 && !storeQuestion.MatchString(text) {
			lines = append(lines, text)
		}
	}
	return lines
}

func TestPromise19Scripts(t *testing.T) {
	wrong := wrongStoreLines()
	met := map[string]int{}
	for seed, w := range drawnLists(80, 100) {
		next := mixing(uint32(seed))
		var lines []string
		for _, d := range w.list {
			lines = append(lines, deedLine(d))
			switch next(6) {
			case 0:
				lines = append(lines, fmt.Sprint("length ", next(int(w.depot.Servers)+1), " ", next(int(w.depot.Names)+1)))
			case 1:
				lines = append(lines, fmt.Sprint("versions ", next(int(w.depot.Names)+1)))
			case 2:
				lines = append(lines, fmt.Sprint("missing ", next(int(w.depot.Servers)+1)))
			case 3:
				lines = append(lines, wrong[next(len(wrong))])
			}
		}
		lines = lines[:impl.MaxScriptLines]
		want := storeAnswers(w.depot, lines)
		storeSays(t, w.depot, lines, want)
		for _, answer := range strings.Split(want, "\n") {
			met[answer]++
		}
	}
	for _, answer := range []string{"ok", "error range", "error state", "error limit", "none", "what", "-", "5", "0"} {
		if met[answer] == 0 {
			t.Errorf("%s is never answered", answer)
		}
	}
}

func TestPromise19ScriptsByHand(t *testing.T) {
	d := depot(3, 2, gram("a\nb\n0 1\n"), impl.Grammar{}, fullGrammar())
	for script, want := range map[string]string{
		"":        "",
		"put 0 0": "ok",
		"put 0 0|length 0 0|length 1 0|length 0 1|versions 0|versions 1|missing 0|missing 1":                                                                                                         "ok|2|none|none|1 0 0|0 0 0|-|-",
		"put 0 1|length 0 0|versions 0|put 0 2|length 0 0|crash 0|length 0 0":                                                                                                                        "ok|0|1 0 0|ok|1000000000000000|ok|none",
		"put 1 0|save 1|offer 1 2 1|deliver 0|missing 2|missing 1|versions 1|length 2 1|ask 2 1|deliver 0|missing 2|deliver 0|missing 2|ask 2 1|deliver 0|deliver 0|missing 2|versions 1|length 2 1": "ok|ok|ok|ok|1002|-|0 1 0|none|ok|ok|1002|ok|1000 1001|ok|ok|ok|-|0 1 1|2",
		"put 2 0|put 0 3|save 3|offer 0 1 0|offer 0 0 0|ask 0 1|deliver 0|copy 0|drop 0|sweep 3":                                                                                                     "error range|error range|error range|error state|error range|error state|error range|error range|error range|error range",
		"put 0 0|save 0|" + strings.Repeat("offer 0 1 0|", 13) + "deliver 11|copy 0|drop 11|drop 10":                                                                                                 "ok|ok|" + strings.Repeat("ok|", 12) + "error limit|ok|ok|error range|ok",
		"put 0 1000|put 1000 0|save 1000|put 999 999|versions 2|missing 3|length 3 0|length 0 2|length 00 0|deliver 0 0":                                                                             "what|what|what|error range|what|what|what|what|what|what",
		"||": "what|what|what",
	} {
		var lines []string
		if script != "" {
			lines = strings.Split(script, "|")
			want = strings.ReplaceAll(want, "|", "\n") + "\n"
		}
		storeSays(t, d, lines, want)
		is(t, "what is held against", want, storeAnswers(d, lines))
	}
	for _, line := range wrongStoreLines() {
		storeSays(t, d, []string{"put 0 0", line, "versions 0"}, "ok\nwhat\n1 0 0\n")
	}
	for text, want := range map[string]string{"\n": "what\n", "\n\n": "what\nwhat\n", "put 0 0\n": "ok\n", "\nput 0 0": "what\nok\n", "put 0 0\n\n": "ok\nwhat\n", "put 0 0\r\nput 0 0": "what\nok\n", "put 0 0\n ": "ok\nwhat\n"} {
		is(t, fmt.Sprintf("RunStore of %q", text), want+" 0", list(impl.RunStore(d, text))...)
	}
	// Each server and each name just up to their numbers.
	for servers := int64(1); servers <= impl.MaxServers; servers++ {
		for names := int64(1); names <= impl.MaxNames; names++ {
			one := depot(servers, names, gram("a\n"))
			for k := range int64(6) {
				server, name := "what\n", "what\n"
				if k < names {
					name = strings.Trim(fmt.Sprint(make([]int64, servers)), "[]") + "\n"
				}
				if k < servers {
					server = "-\n"
				}
				storeSays(t, one, []string{fmt.Sprint("versions ", k), fmt.Sprint("missing ", k)}, name+server)
				for l := range int64(6) {
					said := "what\n"
					if k < servers && l < names {
						said = "none\n"
					}
					storeSays(t, one, []string{fmt.Sprint("length ", k, " ", l)}, said)
				}
			}
		}
	}
}

func TestPromise19ScriptLimits(t *testing.T) {
	d := depot(2, 1, gram("a\nb\n0 1\n"))
	run := func(text string) (string, int64) { return impl.RunStore(d, text) }
	keepsLimits(t, "RunStore", "put 0 0", run, func(lines []string) string { return storeAnswers(d, lines) })
	for _, bad := range someInvalidDepots() {
		for _, text := range []string{"", "put 0 0", strings.Repeat("a", impl.MaxScriptText+1), strings.Repeat("\n", impl.MaxScriptLines+1)} {
			failsWith(t, "RunStore of an invalid depot", list(impl.RunStore(bad, text)), impl.ErrInvalid)
		}
	}
	// More missing addresses than one mail may ask for, in a long line.
	one := depot(2, 1, blocks(60))
	lines := strings.Split("put 0 0|save 0|offer 0 1 0|deliver 0|"+strings.Repeat("ask 1 0|deliver 0|deliver 0|missing 1|", 6), "|")
	lines = lines[:len(lines)-1]
	want := storeAnswers(one, lines)
	storeSays(t, one, lines, want)
	is(t, "the greatest number of missing addresses is more than MaxAsk", "true", regexp.MustCompile(`(?m)^(\d+ ){20}\d+`).MatchString(want))
}
