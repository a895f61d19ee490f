package tests

import (
	"fmt"
	"slices"
	"strings"
	"testing"

	"loop.example/g01133/impl"
)

// someValidDeeds returns valid deeds of all kinds, those at the limits, too.
func someValidDeeds() []impl.Deed {
	var made []impl.Deed
	numbers := []int64{0, 1, 9, 10, 99, 100, 500, 998, 999}
	for kind := int64(impl.DdPut); kind <= impl.DdSweep; kind++ {
		for k, a := range numbers {
			d := deed(kind, a, numbers[(k+3)%9], numbers[(k*2+1)%9])
			if deedNumbers[kind] < 3 {
				d.C = 0
			}
			if deedNumbers[kind] < 2 {
				d.B = 0
			}
			made = append(made, d)
		}
	}
	return append(made, deeds("offer 0 0 1; offer 0 1 0; offer 1 0 0; offer 999 999 999; ask 0 999; ask 999 0; put 0 999")...)
}

// someInvalidDeeds returns deeds that are not valid, for different reasons.
func someInvalidDeeds() []impl.Deed {
	var made []impl.Deed
	for _, kind := range []int64{least, -9, -1, 0, 10, 11, 1 << 32, 1<<32 + 1, greatest} {
		made = append(made, deed(kind, 0, 0, 0), deed(kind, 1, 0, 0))
	}
	for kind := int64(impl.DdPut); kind <= impl.DdSweep; kind++ {
		for _, bad := range []int64{least, -1000, -999, -1, 1000, 1001, 1 << 32, 1 << 62, greatest} {
			made = append(made, deed(kind, bad, 0, 0), deed(kind, 0, bad, 0), deed(kind, 0, 0, bad))
		}
		// Fields that its text does not mention.
		for _, other := range []int64{1, 2, 500, 999} {
			if deedNumbers[kind] < 3 {
				made = append(made, deed(kind, 0, 0, other), deed(kind, 1, 0, other))
			}
			if deedNumbers[kind] < 2 {
				made = append(made, deed(kind, 0, other, 0), deed(kind, 1, other, other))
			}
		}
	}
	return made
}

func TestPromise19ValidDeeds(t *testing.T) {
	for _, d := range someValidDeeds() {
		text := deedLine(d)
		is(t, "ValidDeed of "+text, "true", impl.ValidDeed(d))
		is(t, "DeedText of "+text, text, impl.DeedText(d))
		read, code := impl.ReadDeed(text)
		is(t, "ReadDeed of "+text, fmt.Sprint(d, " 0"), read, code)
	}
	for _, d := range someInvalidDeeds() {
		is(t, fmt.Sprint("ValidDeed of ", d), "false", impl.ValidDeed(d))
		is(t, fmt.Sprint("DeedText of ", d), "", impl.DeedText(d))
	}
	for text, d := range map[string]impl.Deed{
		"put 1 2": {Kind: 1, A: 1, B: 2}, "save 3": {Kind: 2, A: 3}, "crash 0": {Kind: 3}, "offer 0 1 2": {Kind: 4, B: 1, C: 2}, "ask 1 0": {Kind: 5, A: 1}, "deliver 11": {Kind: 6, A: 11},
		"copy 5": {Kind: 7, A: 5}, "drop 999": {Kind: 8, A: 999}, "sweep 2": {Kind: 9, A: 2},
	} {
		read, code := impl.ReadDeed(text)
		is(t, "ReadDeed of "+text, fmt.Sprint(d, " 0 "+text), read, code, impl.DeedText(d))
	}
}

// wrongDeedTexts returns texts of no deed, for different reasons.
func wrongDeedTexts() []string {
	texts := []string{"", " ", "\n", "0", "a", "what", "length 0 0", "versions 0", "missing 0", "put", "put ", "put 0", "put 0 ", "put 0 1 ", " put 0 1", "put  0 1", "put 0  1", "put 0 1 0", "put 0 1 2", "put 0 a", "put a 0", "put\t0 1", "put 0\t1", "put 0 1\n", "put 0 1\r",
		"Put 0 1", "PUT 0 1", "puts 0 1", "pu 0 1", "put,0,1", "put0 1", "put 01", "0 0 1", "put 0 1\x00", "put\x000 1", "\xff 0 1", "päut 0 1", "put 0 1\nsave 0", "save", "save ", "save 0 ", "save 0 0", "save 0 1", "save  0", " save 0", "saved 0", "save a",
		"crash", "crash 0 0", "crash 0 0 0", "crash  0", "offer", "offer 0", "offer 0 1", "offer 0 1 ", "offer 0 1 2 ", "offer 0 1 2 0", "offer 0 1 2 3", "offer 0  1 2", "offer 0 1  2", "offer  0 1 2", "offer 0 1 a", "ask", "ask 0", "ask 0 1 0", "ask 0 1 2", "ask 0 1 2 3 4 5",
		"deliver", "deliver 0 0", "deliver  0", "deliver 0 1", "copy", "copy 0 0", "copy 0 1 2", "drop", "drop 0 0", "drop  0", "sweep", "sweep 0 0", "sweep a", "sweep 0 0 0 0", " 0", "  0 0", "1 0 0", "2 0",
	}
	for _, number := range []string{"00", "01", "007", "000", "+1", "+0", "-0", "-1", "1.0", "1e2", "0x1", "1_0", " 1", "1 ", "", "a", "٣", "１", "\xff", "1\x00", "1000", "1001", "9999", "10000", "0999", "4294967296", "9223372036854775807", "9223372036854775808",
		"18446744073709551616", "18446744073709551617", "36893488147419103232", "0000000000000000001", strings.Repeat("0", 500), strings.Repeat("9", 500), strings.Repeat("1", 300000)} {
		for _, text := range []string{"put N 1", "put 1 N", "save N", "crash N", "offer N 1 2", "offer 1 N 2", "offer 1 2 N", "ask N 1", "ask 1 N", "deliver N", "copy N", "drop N", "sweep N"} {
			texts = append(texts, strings.Replace(text, "N", number, 1))
		}
	}
	return append(texts, strings.Repeat(" ", 1000000), "save"+strings.Repeat(" 1", 490000), strings.Repeat("\xff", 1000000), strings.Repeat("save 0\n", 140000), strings.Repeat("a", 1000000))
}

func TestPromise19WrongDeedTexts(t *testing.T) {
	for _, text := range wrongDeedTexts() {
		d, code := impl.ReadDeed(text)
		failsWith(t, fmt.Sprintf("ReadDeed of %.60q", text), list(d, code), impl.ErrSyntax)
	}
	// A byte more or less, or another one, makes the text of another deed, or of none.
	for _, text := range []string{"put 10 2", "save 3", "crash 21", "offer 1 20 3", "ask 0 1", "deliver 11", "copy 5", "drop 999", "sweep 2"} {
		for k := range len(text) + 1 {
			for _, by := range []string{"", "a", "s", "0", "1", "9", " ", "\n", "-", "+", "\x00", "\xff"} {
				for _, changed := range []string{text[:k] + by + text[k:], text[:k] + by + text[min(k+1, len(text)):]} {
					d, code := impl.ReadDeed(changed)
					words := strings.Split(changed, " ")
					kind := slices.Index(deedWords, words[0])
					right := kind > 0 && len(words) == deedNumbers[max(0, kind)]+1
					for _, word := range words[1:] {
						right = right && slices.Contains(numberTexts(), word)
					}
					if !right {
						failsWith(t, fmt.Sprintf("ReadDeed of %q", changed), list(d, code), impl.ErrSyntax)
					} else {
						is(t, "the text of what is read", changed+" true 0", deedLine(d), impl.ValidDeed(d), code)
					}
				}
			}
		}
	}
}

// numberTexts returns the texts of all numbers that a deed may mention.
func numberTexts() []string {
	var texts []string
	for n := range 1000 {
		texts = append(texts, fmt.Sprint(n))
	}
	return texts
}

// someInvalidDepots returns depots that are not valid, for different reasons.
func someInvalidDepots() []impl.Depot {
	var made []impl.Depot
	for _, bad := range []int64{least, -1, 0, 5, 6, 1 << 32, 1<<32 + 1, greatest} {
		made = append(made, depot(bad, 1), depot(1, bad), depot(bad, bad), depot(bad, 4, gram(example)), depot(4, bad, gram(example)))
	}
	nine := slices.Repeat([]impl.Grammar{gram("a\n")}, impl.MaxWords+1)
	made = append(made, impl.Depot{}, depot(1, 1, nine...), depot(4, 4, make([]impl.Grammar, impl.MaxWords+1)...), depot(4, 4, make([]impl.Grammar, 300000)...))
	for k, g := range invalidGrammars() {
		words := slices.Clone(nine[:1+k%8])
		words[k%len(words)] = g
		made = append(made, depot(2, 2, g), depot(1+int64(k)%4, 1+int64(k)%3, words...), depot(2, 2, append(nine[:7:7], g)...))
	}
	return made
}

func TestPromise19ValidDepots(t *testing.T) {
	for _, d := range someInvalidDepots() {
		is(t, fmt.Sprintf("ValidDepot of %d servers, %d names and %d words", d.Servers, d.Names, len(d.Words)), "false", impl.ValidDepot(d))
	}
	for _, d := range someDepots() {
		is(t, "ValidDepot", "true", impl.ValidDepot(d))
	}
	for servers := range int64(7) {
		for names := range int64(7) {
			for words := range 10 {
				right := servers >= 1 && servers <= 4 && names >= 1 && names <= 4 && words <= 8
				is(t, fmt.Sprint("ValidDepot of ", servers, names, words), fmt.Sprint(right, right), impl.ValidDepot(depot(servers, names, make([]impl.Grammar, words)...)), impl.ValidDepot(depot(servers, names, slices.Repeat([]impl.Grammar{chain(impl.MaxRules)}, words)...)))
			}
		}
	}
	is(t, "ValidDepot of long words", "true", impl.ValidDepot(depot(4, 4, append(longGrammars(), impl.Grammar{})...)))
	s, done, code := impl.StoreAfter(depot(4, 3), nil)
	is(t, "a store without words and deeds", strings.TrimSpace(strings.Repeat("{{0 [] [{0 0} {0 0} {0 0}] [{0 0} {0 0} {0 0}]} {0 [] [{0 0} {0 0} {0 0}] [{0 0} {0 0} {0 0}]}} ", 4))+" [] 0 0", strings.Trim(fmt.Sprint(s.Shops), "[]"), s.Wire, done, code)
}
