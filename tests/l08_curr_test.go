package tests

import (
	"fmt"
	"go/ast"
	"go/parser"
	"go/token"
	"math/rand/v2"
	"os"
	"os/exec"
	"path/filepath"
	"slices"
	"strconv"
	"strings"
	"sync"
	"testing"

	"loop.example/g00793/impl"
)

// curTable is the document's table as it stands there: code, number, decimal places, smallest cash denomination.
const curTable = "CHF 756 2 5, EUR 978 2 1, USD 840 2 1, GBP 826 2 1, JPY 392 0 1, SEK 752 2 100, NOK 578 2 100, DKK 208 2 50, CZK 203 2 100, HUF 348 2 500, PLN 985 2 1, CAD 124 2 5, AUD 036 2 5, NZD 554 2 10, KWD 414 3 5, BHD 048 3 5, TND 788 3 10, ISK 352 0 1, KRW 410 0 10, CLF 990 4 1"

// curOrder is what Curs returns, sorted by hand.
const curOrder = "AUD BHD CAD CHF CLF CZK DKK EUR GBP HUF ISK JPY KRW KWD NOK NZD PLN SEK TND USD"

type curRow struct {
	code   string
	number string
	places string
	cash   string
}

func curRows() []curRow {
	var rows []curRow
	for _, row := range strings.Split(curTable, ", ") {
		f := strings.Fields(row)
		rows = append(rows, curRow{f[0], f[1], f[2], f[3]})
	}
	return rows
}

// unitOf is 10^places, for the places that occur.
func unitOf(places string) impl.Rat {
	unit := map[string]int{"0": 1, "2": 100, "3": 1000, "4": 10000}[places]
	return fraction(plus(unit), 1)
}

func ratAnswer(r impl.Rat) string { return fmt.Sprint(r.Num.Neg, r.Num.Mag, r.Den) }

// curCalls lists the functions of the chapter, with answers as texts. Curs ignores the argument.
func curCalls() map[string]func(string) string {
	return map[string]func(string) string{
		"CurKnown":  func(s string) string { return strconv.FormatBool(impl.CurKnown(s)) },
		"CurNumber": impl.CurNumber,
		"CurPlaces": func(s string) string { return strconv.Itoa(impl.CurPlaces(s)) },
		"CurCash":   func(s string) string { return strconv.Itoa(impl.CurCash(s)) },
		"CurOf":     impl.CurOf,
		"Curs":      func(string) string { return strings.Join(impl.Curs(), " ") },
		"CurUnit":   func(s string) string { return ratAnswer(impl.CurUnit(s)) },
	}
}

// unknownAnswers are those for a text that is neither a code nor a number of the table.
func unknownAnswers() map[string]string {
	return map[string]string{"CurKnown": "false", "CurNumber": "", "CurPlaces": "0", "CurCash": "0", "CurOf": "", "Curs": curOrder, "CurUnit": ratAnswer(impl.Rat{})}
}

// curAnswers are those for any text: a code is no number, and a number no code.
func curAnswers(s string) map[string]string {
	want := unknownAnswers()
	for _, row := range curRows() {
		switch s {
		case row.code:
			want["CurKnown"], want["CurNumber"], want["CurPlaces"], want["CurCash"], want["CurUnit"] = "true", row.number, row.places, row.cash, ratAnswer(unitOf(row.places))
		case row.number:
			want["CurOf"] = row.code
		}
	}
	return want
}

func checkAnswers(t *testing.T, s string, want map[string]string) {
	t.Helper()
	for name, call := range curCalls() {
		if got := call(s); got != want[name] {
			t.Errorf("%s(%q) = %q, not %q", name, s, got, want[name])
		}
	}
}

func checkUnknown(t *testing.T, all ...string) {
	t.Helper()
	for _, s := range all {
		checkAnswers(t, s, unknownAnswers())
	}
}

func TestCurTable(t *testing.T) {
	rows := curRows()
	if len(rows) != 20 {
		t.Fatalf("the table has %d rows", len(rows))
	}
	for _, row := range rows {
		if !impl.CurKnown(row.code) || impl.CurNumber(row.code) != row.number || impl.CurOf(row.number) != row.code {
			t.Errorf("%s: CurKnown %v, CurNumber %q, CurOf(%q) %q", row.code, impl.CurKnown(row.code), impl.CurNumber(row.code), row.number, impl.CurOf(row.number))
		}
		if places, cash := strconv.Itoa(impl.CurPlaces(row.code)), strconv.Itoa(impl.CurCash(row.code)); places != row.places || cash != row.cash {
			t.Errorf("%s: CurPlaces %s, CurCash %s, not %s, %s", row.code, places, cash, row.places, row.cash)
		}
		checkRat(t, impl.CurUnit(row.code), true, unitOf(row.places), true, "CurUnit, "+row.code+",")
		checkAnswers(t, row.code, curAnswers(row.code))
		checkAnswers(t, row.number, curAnswers(row.number))
	}
}

// P8: no code and no number belongs to two currencies, and each leads to the other one and back.
func TestCurIdentified(t *testing.T) {
	numbers := map[string]string{}
	for _, code := range impl.Curs() {
		number := impl.CurNumber(code)
		if other, twice := numbers[number]; twice {
			t.Errorf("%s and %s both have the number %q", code, other, number)
		}
		numbers[number] = code
		if back := impl.CurOf(number); !impl.IsCode(code) || !impl.IsDigits(number) || len(number) != 3 || back != code {
			t.Errorf("CurNumber(%q) = %q, CurOf of it %q", code, number, back)
		}
	}
	found := 0
	for n := range 1000 {
		number := impl.Pad(impl.IntText(n), 3)
		code := impl.CurOf(number)
		if code != numbers[number] {
			t.Errorf("CurOf(%q) = %q, not %q", number, code, numbers[number])
		}
		if code == "" {
			continue
		}
		found++
		if !impl.CurKnown(code) || impl.CurNumber(code) != number {
			t.Errorf("CurOf(%q) = %q, CurNumber of it %q", number, code, impl.CurNumber(code))
		}
	}
	if found != 20 || len(numbers) != 20 {
		t.Errorf("%d numbers have a currency, and %d currencies a number", found, len(numbers))
	}
}

// The zeros at the beginning belong to a number: without them, or with one more, it is none.
func TestCurLeadingZeros(t *testing.T) {
	for number, code := range map[string]string{"036": "AUD", "048": "BHD"} {
		if impl.CurOf(number) != code || impl.CurNumber(code) != number {
			t.Errorf("CurOf(%q) = %q, CurNumber(%q) = %q", number, impl.CurOf(number), code, impl.CurNumber(code))
		}
		short := number[1:]
		checkUnknown(t, short, "0"+number, "00"+number, short+"0", "0"+short+"0", " "+short, short+" ", "+"+short, "-"+short, "O"+short, "\x00"+short, "0x"+short, number+".0")
	}
	for _, row := range curRows() {
		checkUnknown(t, "0"+row.number, "00"+row.number, row.number+"0", "0"+row.number[1:2], row.number[:1]+"0"+row.number[1:])
	}
}

func TestCurUnit(t *testing.T) {
	units := map[int]string{
		1:     "JPY ISK KRW",
		100:   "CHF EUR USD GBP SEK NOK DKK CZK HUF PLN CAD AUD NZD",
		1000:  "KWD BHD TND",
		10000: "CLF",
	}
	for unit, codes := range units {
		for _, code := range strings.Fields(codes) {
			got := impl.CurUnit(code)
			checkRat(t, got, impl.RatOk(got), fraction(plus(unit), 1), true, "CurUnit, "+code+",")
			if text := impl.RatText(got); text != "1"+zerosText(impl.CurPlaces(code)) {
				t.Errorf("CurUnit(%q) = %s, but CurPlaces %d", code, text, impl.CurPlaces(code))
			}
		}
	}
}

// A smallest unit that is a coin itself is a denomination of 1; an unknown currency has 0.
func TestCurCash(t *testing.T) {
	cash := map[int]string{
		1:   "EUR USD GBP JPY PLN ISK CLF",
		5:   "CHF CAD AUD KWD BHD",
		10:  "NZD TND KRW",
		50:  "DKK",
		100: "SEK NOK CZK",
		500: "HUF",
		0:   "XXX eur EU EURO 978",
	}
	for want, codes := range cash {
		for _, code := range strings.Fields(codes) {
			if got := impl.CurCash(code); got != want {
				t.Errorf("CurCash(%q) = %d, not %d", code, got, want)
			}
		}
	}
}

func TestCurs(t *testing.T) {
	codes := impl.Curs()
	if !slices.Equal(codes, strings.Fields(curOrder)) {
		t.Errorf("Curs() = %q", codes)
	}
	for i := 1; i < len(codes); i++ {
		if codes[i-1] >= codes[i] {
			t.Errorf("Curs(): %q stands before %q", codes[i-1], codes[i])
		}
	}
	for _, row := range curRows() {
		if !slices.Contains(codes, row.code) {
			t.Errorf("Curs() = %q, without %s", codes, row.code)
		}
	}
}

func TestCurUnknown(t *testing.T) {
	checkUnknown(t, "", " ", "  ", "   ", "0", "00", "000", "0000", "001", "999", "1000", "-36", "-756", "+756", "1", "2", "5", "100")
	checkUnknown(t, "XXX", "XAU", "DEM", "FRF", "CNY", "INR", "BTC", "AAA", "ZZZ", "ABC", "156", "356", "276", "036 ", "360", "480", "480 ", "63", "84")
	checkUnknown(t, "Euro", "EURO", "euro", "CHF EUR", "CHF,EUR", "CHFEUR", "CHF 756", "CHF 756 2 5", "756 CHF", "CHF756", "756CHF", "756978", "AUD036", "\u20ac", "$", "\u00a3", "\u00a5", "Fr.", curTable, curOrder)
	checkUnknown(t, "\x00", "\x00\x00\x00", "\xff", "\xff\xff\xff", "\xff\xfe\xfd", "\x80\x80\x80", "CH\xc6", "\xc3HF", "EU\xd2", "\xb7\xb5\xb6", "!!!", "@@@", "[[[", "///", ":::", "C.F", "7.6", "7 6", "\n\n\n", "CH\n", "\t56")
	checkUnknown(t, "\u0421HF", "\u0415UR", "US\u0044\u0301", "\uff23\uff28\uff26", "\uff15\uff17\uff18", "\u0667\u0665\u0666", "\u00b9\u00b2\u2074", "\U0001d402HF", "\ufeffEUR", "EUR\u00a0", "\u200bEUR", "\u0000\u00e9\u00ff", "\ufffd\ufffd\ufffd", "SE\u212a", "\u017feK", "I\u017fK")
	checkUnknown(t, strings.Repeat("E", 1<<16), strings.Repeat("EUR", 1<<16), strings.Repeat("0", 1<<16), strings.Repeat("0", 1<<16)+"36", "EUR"+strings.Repeat(" ", 1<<16), "756"+strings.Repeat("\x00", 256), strings.Repeat("\xff", 1<<16))
}

// Around every code and every number: parts of it, more than it, and it in another form.
func TestCurUnknownNeighbours(t *testing.T) {
	around := []string{" ", "  ", "\n", "\r\n", "\t", "\x00", "\xff", "\xc2", "\u00a0", "A", "R", "a", "0", "1", "9", ".", ",", "-", "+", "/", "%", "\"", "'"}
	for _, row := range curRows() {
		checkUnknown(t, strings.ToLower(row.code), strings.ToTitle(row.code[:1])+strings.ToLower(row.code[1:]))
		checkUnknown(t, row.code+row.number, row.number+row.code, row.code+" "+row.number, row.number+" "+row.code)
		for _, s := range []string{row.code, row.number} {
			checkUnknown(t, s+s, s[:1], s[:2], s[1:], s[2:], s[:1]+s[2:])
			for _, more := range around {
				checkUnknown(t, more+s, s+more, more+s+more, s[:1]+more+s[1:], s[:2]+more+s[2:])
			}
		}
	}
}

// Every byte at every place of every code and number: letters in the other case, digits among letters and the other way round, and no text at all.
func TestCurEveryByte(t *testing.T) {
	for _, row := range curRows() {
		for _, base := range []string{row.code, row.number} {
			for place := range len(base) {
				for b := range 256 {
					s := []byte(base)
					s[place] = byte(b)
					checkAnswers(t, string(s), curAnswers(string(s)))
				}
			}
		}
	}
}

// All codes of capital letters and all texts of digits, up to four of them.
func TestCurEveryText(t *testing.T) {
	const capitals = "ABCDEFGHIJKLMNOPQRSTUVWXYZ"
	known := 0
	for _, code := range texts(capitals, 3) {
		if impl.CurKnown(code) {
			known++
		}
		if slices.Contains(strings.Fields(curOrder), code) != impl.CurKnown(code) {
			t.Errorf("CurKnown(%q) = %v", code, impl.CurKnown(code))
		}
		checkAnswers(t, code, curAnswers(code))
	}
	if known != 20 {
		t.Errorf("%d codes are known", known)
	}
	for _, number := range texts("0123456789", 4) {
		checkAnswers(t, number, curAnswers(number))
	}
}

// Chapter 1: what Curs returns is new each time, with the capacity behind it.
func TestCursAreNew(t *testing.T) {
	want := strings.Fields(curOrder)
	first, second := impl.Curs(), impl.Curs()
	memory := first[:cap(first)]
	for i := range memory {
		memory[i] = "XXX"
	}
	if third := impl.Curs(); !slices.Equal(second, want) || !slices.Equal(third, want) {
		t.Errorf("after the first result was overwritten: %q and %q", second, third)
	}
	_ = append(second, "ZZZ")
	slices.Reverse(second)
	if third := impl.Curs(); !slices.Equal(third, want) || slices.ContainsFunc(memory, func(s string) bool { return s != "XXX" }) {
		t.Errorf("after the second result was changed: %q, and the first one %q", third, memory)
	}
	for _, row := range curRows() {
		checkAnswers(t, row.code, curAnswers(row.code))
		checkAnswers(t, row.number, curAnswers(row.number))
	}
	checkUnknown(t, "XXX", "ZZZ")
}

// The same for CurUnit, also for two currencies with the same unit, and for the two parts of one result, which are equal for a unit of 1.
func TestCurUnitsAreNew(t *testing.T) {
	for _, row := range curRows() {
		want := unitOf(row.places)
		got := impl.CurUnit(row.code)
		overwrite(got.Num.Mag)
		if !slices.Equal(got.Den, want.Den) {
			t.Errorf("CurUnit(%q): overwriting the numerator changed the denominator to %v", row.code, got.Den)
		}
		for _, other := range curRows() {
			kept := impl.CurUnit(other.code)
			got = impl.CurUnit(row.code)
			overwriteRat(got)
			checkRat(t, kept, true, unitOf(other.places), true, "CurUnit, "+other.code+", after the one of "+row.code+" was overwritten,")
			checkRat(t, impl.CurUnit(other.code), true, unitOf(other.places), true, "CurUnit, "+other.code+", called after the one of "+row.code+" was overwritten,")
		}
		checkRat(t, impl.RatZero(), true, fraction(plus(), 1), true, "RatZero, after CurUnit was overwritten,")
		checkAnswers(t, row.code, curAnswers(row.code))
	}
	checkUnknown(t, "", "XXX")
}

// Chapter 1: no state is kept, so the answers are the same however often and in whatever order the functions are called.
func TestCurAnswersStay(t *testing.T) {
	args := []string{"", "XXX", "eur", "EURO", "036", "36", "\x00", "\xff"}
	for _, row := range curRows() {
		args = append(args, row.code, row.number, strings.ToLower(row.code))
	}
	names := callNames()
	r := rand.New(rand.NewPCG(8, 9))
	for range 20000 {
		name, arg := names[r.IntN(len(names))], args[r.IntN(len(args))]
		if got, want := curCalls()[name](arg), curAnswers(arg)[name]; got != want {
			t.Fatalf("%s(%q) = %q, not %q", name, arg, got, want)
		}
	}
}

func callNames() []string {
	var names []string
	for name := range curCalls() {
		names = append(names, name)
	}
	slices.Sort(names)
	return names
}

const firstCallName = "CUR_FIRST_CALL"
const firstCallArg = "CUR_FIRST_ARG"

// Only a process of its own can make a call the first one, so the test starts itself again for every function.
func TestCurFirstCall(t *testing.T) {
	if name := os.Getenv(firstCallName); name != "" {
		checkFirstCall(t, name, os.Getenv(firstCallArg))
		return
	}
	self, err := os.Executable()
	if err != nil {
		t.Fatal(err)
	}
	for _, name := range callNames() {
		for _, arg := range []string{"CHF", "CLF", "036", "XXX"} {
			again := exec.Command(self, "-test.run=^TestCurFirstCall$")
			again.Env = append(os.Environ(), firstCallName+"="+name, firstCallArg+"="+arg)
			if out, err := again.CombinedOutput(); err != nil {
				t.Errorf("%s(%q) as the first call: %v\n%s", name, arg, err, out)
			}
		}
	}
}

// checkFirstCall makes the call from many goroutines at once, so that each of them may be the first one.
func checkFirstCall(t *testing.T, name string, arg string) {
	call, want := curCalls()[name], curAnswers(arg)
	var answers [8]string
	var wait sync.WaitGroup
	for i := range answers {
		wait.Go(func() { answers[i] = call(arg) })
	}
	wait.Wait()
	for _, got := range answers {
		if got != want[name] {
			t.Errorf("%s(%q) = %q, not %q", name, arg, got, want[name])
		}
	}
	for _, row := range curRows() {
		checkAnswers(t, row.code, curAnswers(row.code))
	}
	checkAnswers(t, arg, want)
}

// usedNames lists, for every function of the program (its file and its name), the names that stand in its body.
func usedNames(t *testing.T) map[[2]string][]string {
	t.Helper()
	files, err := filepath.Glob("../impl/*.go")
	if err != nil || len(files) == 0 {
		t.Fatalf("the program was not found: %v", err)
	}
	used := map[[2]string][]string{}
	for _, file := range files {
		parsed, err := parser.ParseFile(token.NewFileSet(), file, nil, parser.SkipObjectResolution)
		if err != nil {
			t.Fatal(err)
		}
		for _, declared := range parsed.Decls {
			if f, ok := declared.(*ast.FuncDecl); ok {
				key := [2]string{filepath.Base(file), f.Name.Name}
				used[key] = append(used[key], namesIn(f)...)
			}
		}
	}
	return used
}

func namesIn(f *ast.FuncDecl) []string {
	if f.Body == nil {
		return nil
	}
	var names []string
	ast.Inspect(f.Body, func(n ast.Node) bool {
		if name, ok := n.(*ast.Ident); ok {
			names = append(names, name.Name)
		}
		return true
	})
	return names
}

// comingThrough lists the functions that come to a name, by themselves or through others. It goes by names alone, so it may list too many, but none is left out.
func comingThrough(t *testing.T, name string) [][2]string {
	t.Helper()
	used, reached := usedNames(t), []string{name}
	var found [][2]string
	for i := 0; i < len(reached); i++ {
		for key, names := range used {
			if slices.Contains(names, reached[i]) && !slices.Contains(found, key) {
				found = append(found, key)
				reached = append(reached, key[1])
			}
		}
	}
	return found
}

// The index is read by an exported function of its own chapter, and no function of another chapter comes through it.
func TestCurIndexStaysInItsChapter(t *testing.T) {
	exported := 0
	for _, key := range comingThrough(t, "byCode") {
		if key[0] != "l08_curr.go" {
			t.Errorf("%s in %s comes through byCode", key[1], key[0])
		}
		if ast.IsExported(key[1]) {
			exported++
		}
	}
	if exported == 0 {
		t.Error("no exported function reads byCode")
	}
}
