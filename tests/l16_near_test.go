package tests

import (
	"fmt"
	"math/rand"
	"slices"
	"strings"
	"testing"

	"loop.example/g00101/impl"
)

// nearListing is a right one whose lines these tests turn into what is nearly one. Its last Proto is made by the first one.
const nearListing = "text a b\nproto 0 1\ncode\nfn 1\nset 0\nint 5\nreturn 0\nproto 1 2\nlocal 0\ncode\nup 0\nreturn 0\n"

// listedLines cuts a listing; each line without the byte behind it.
func listedLines(listing string) []string {
	return strings.Split(strings.TrimSuffix(listing, "\n"), "\n")
}

func ofLines(lines ...string) string { return strings.Join(lines, "\n") + "\n" }

func backwards(lines []string) []string {
	lines = slices.Clone(lines)
	slices.Reverse(lines)
	return lines
}

// withLine is the lines with one of them another one.
func withLine(lines []string, i int, line string) string {
	lines = slices.Clone(lines)
	lines[i] = line
	return ofLines(lines...)
}

func TestTheNearListingIsOne(t *testing.T) {
	if !checkRead(t, "near", nearListing) {
		t.Error("it is not read")
	}
}

func TestLinesThatLackAnEnd(t *testing.T) {
	for _, listing := range []string{nearListing, fullListing, "proto 0 0\ncode\nreturn 0\n"} {
		checkNoListing(t, "without its last byte", listing[:len(listing)-1])
		checkNoListing(t, "with a byte 10 more", listing+"\n")
		checkNoListing(t, "with a byte 13 ahead of each 10", strings.ReplaceAll(listing, "\n", "\r\n"))
		checkNoListing(t, "with a byte 13 for each 10", strings.ReplaceAll(listing, "\n", "\r"))
		checkNoListing(t, "with a byte 13 for the last 10", listing[:len(listing)-1]+"\r")
		checkNoListing(t, "with a byte 0 behind", listing+"\x00")
		checkNoListing(t, "twice", listing+listing[:len(listing)-1])
		lines := listedLines(listing)
		for i, line := range lines {
			checkNoListing(t, "an empty line", ofLines(slices.Insert(slices.Clone(lines), i, "")...))
			checkNoListing(t, "a line of a blank", ofLines(slices.Insert(slices.Clone(lines), i, " ")...))
			checkNoListing(t, "a byte 13", withLine(lines, i, line+"\r"))
			if i > 0 && !strings.HasPrefix(lines[i-1], "text") {
				checkNoListing(t, "a line in the one ahead", ofLines(slices.Concat(lines[:i-1], []string{lines[i-1] + " " + line}, lines[i+1:])...))
			}
		}
	}
}

// Of lines that are no Text's.
func TestBlanksThatAreTooManyOrTooFew(t *testing.T) {
	for _, listing := range []string{nearListing, fullListing} {
		lines := listedLines(listing)
		inTexts := true
		for i, line := range lines {
			inTexts = inTexts && strings.HasPrefix(line, "text")
			checkNoListing(t, "a blank ahead", withLine(lines, i, " "+line))
			checkNoListing(t, "a tab ahead", withLine(lines, i, "\t"+line))
			if inTexts {
				continue
			}
			for _, name := range []string{line + " ", line + "  ", line + "\t", strings.ReplaceAll(line, " ", "  "), strings.Replace(line, " ", "  ", 1), strings.ReplaceAll(line, " ", "\t"), line + " 0", line + " nil", line + ";"} {
				if name != line {
					checkNoListing(t, "a blank", withLine(lines, i, name))
				}
			}
			if strings.Contains(line, " ") {
				checkNoListing(t, "no blank", withLine(lines, i, strings.ReplaceAll(line, " ", "")))
				checkNoListing(t, "the last blank is gone", withLine(lines, i, line[:strings.LastIndex(line, " ")]+line[strings.LastIndex(line, " ")+1:]))
			}
		}
	}
	checkNoListing(t, "a Text without its blank", strings.Replace(nearListing, "text a b", "text", 1))
	checkNoListing(t, "a Text right behind its word", strings.Replace(nearListing, "text a b", "texta b", 1))
	for _, text := range []string{"text ", "text  ", "text  a b", "text a b ", "text a  b"} {
		if !checkRead(t, text, strings.Replace(nearListing, "text a b", text, 1)) {
			t.Errorf("%q is a Text's line, and is not read", text)
		}
	}
}

// wrongNumbers are no listing's, wherever a number stands; n is what stands there.
func wrongNumbers(n string) []string {
	return []string{
		"0" + n, "00" + n, "+" + n, "-0", "+0", "-0" + n, "--" + n, "- " + n, "", "-", "+", "a", n + "a", "0x" + n, "0" + "b" + n, "1_0", n + ".0", n + "e0", n + "-", n + "+", "'" + n + "'", "nil", "٣", "５",
		"9223372036854775808", "-9223372036854775809", "18446744073709551616", "18446744073709551615", "1234567890123456789012345", "-1234567890123456789012345", "1" + strings.Repeat("0", 300), n + " " + n, n + "\x00",
	}
}

func TestNumbersThatAreNone(t *testing.T) {
	lines := listedLines(nearListing)
	numbers := 0
	for i, line := range lines[1:] {
		words := strings.Split(line, " ")
		for k, n := range words[1:] {
			numbers++
			for _, wrong := range wrongNumbers(n) {
				turned := slices.Clone(words)
				turned[k+1] = wrong
				checkNoListing(t, fmt.Sprintf("%q for %s in %q", wrong, n, line), withLine(lines, i+1, strings.Join(turned, " ")))
			}
			for _, wrong := range []string{"-1", "-5", "-9223372036854775808", "9223372036854775807", "4000"} {
				turned := slices.Clone(words)
				turned[k+1] = wrong
				name := fmt.Sprintf("%q for %s in %q", wrong, n, line)
				if listing := withLine(lines, i+1, strings.Join(turned, " ")); words[0] != "int" {
					checkNoListing(t, name, listing)
				} else if !checkRead(t, name, listing) {
					t.Error(name, "is not read")
				}
			}
		}
	}
	if numbers != 11 {
		t.Error("there are", numbers, "numbers")
	}
	// The Ups of a function that nobody makes may lead anywhere.
	for _, n := range []string{"-1", "0", "99", "-9223372036854775808", "9223372036854775807"} {
		for _, word := range []string{"up", "local"} {
			if !checkRead(t, "an Up of "+n, "proto 0 0\ncode\nreturn 0\nproto 0 0\n"+word+" "+n+"\ncode\nreturn 0\n") {
				t.Error(word, n, "is not read")
			}
		}
	}
}

func TestWordsThatAreNone(t *testing.T) {
	lines := listedLines(nearListing)
	for i, line := range lines {
		word, rest, isCut := strings.Cut(line, " ")
		for _, wrong := range []string{strings.ToUpper(word), strings.ToUpper(word[:1]) + word[1:], word + "s", word[:len(word)-1], "x" + word, "", "noop", "end", "ret", "0", "nill", "ups", "module", word + ":", "code:", "\x00", "é"} {
			turned := wrong
			if isCut {
				turned += " " + rest
			}
			if turned == line {
				continue
			}
			checkNoListing(t, fmt.Sprintf("%q for %q", turned, line), withLine(lines, i, turned))
		}
	}
	// What begins a line somewhere else begins none here.
	for i, wrong := range map[int]string{0: "nil 0", 1: "local 0", 2: "nil 0", 3: "codes 0", 4: "protos 0 0", 8: "nil 0", 9: "text a", 10: "proto 0 0"} {
		checkNoListing(t, wrong, withLine(lines, i, wrong))
	}
}

func TestLinesOutOfOrder(t *testing.T) {
	lines := listedLines(nearListing)
	for _, one := range []struct {
		name string
		text string
	}{
		{"no text at all", ""},
		{"a byte 10", "\n"},
		{"a Text behind a proto line", "proto 0 0\ntext a\ncode\nreturn 0\n"},
		{"a Text between code and instructions", "proto 0 0\ncode\ntext a\nreturn 0\n"},
		{"a Text behind all", "proto 0 0\ncode\nreturn 0\ntext a\n"},
		{"a Text between two Protos", "proto 0 0\ncode\nreturn 0\ntext a\nproto 0 0\ncode\nreturn 0\n"},
		{"an up line behind the line code", strings.Replace(nearListing, "local 0\ncode", "code\nlocal 0", 1)},
		{"an up line behind an instruction", strings.Replace(nearListing, "local 0\ncode\nup 0\n", "code\nup 0\nlocal 0\n", 1)},
		{"an up line behind all", strings.Replace(nearListing, "local 0\n", "", 1) + "local 0\n"},
		{"an up line ahead of its Proto", strings.Replace(nearListing, "proto 1 2\nlocal 0\n", "local 0\nproto 1 2\n", 1)},
		{"an up line of the Top", strings.Replace(nearListing, "proto 0 1\n", "proto 0 1\nlocal 0\n", 1)},
		{"two lines code", strings.Replace(nearListing, "code\n", "code\ncode\n", 1)},
		{"two lines code, the second Proto", strings.Replace(nearListing, "code\nup", "code\ncode\nup", 1)},
		{"a line code behind instructions", strings.Replace(nearListing, "set 0\n", "set 0\ncode\n", 1)},
		{"a line code behind all", nearListing + "code\n"},
		{"no line code", strings.Replace(nearListing, "code\n", "", 1)},
		{"no line code, the second Proto", strings.Replace(nearListing, "code\nup", "up", 1)},
		{"no line code at all", strings.ReplaceAll(nearListing, "code\n", "")},
		{"code with a number", strings.Replace(nearListing, "code\n", "code 0\n", 1)},
		{"no Proto", "text a\n"},
		{"no Proto, but its code", "code\nreturn 0\n"},
		{"no proto line", strings.Replace(nearListing, "proto 0 1\n", "", 1)},
		{"no instruction", "proto 0 0\ncode\n"},
		{"no instruction, no code", "proto 0 0\n"},
		{"no instruction of the second Proto", "proto 0 0\ncode\nreturn 0\nproto 0 0\ncode\n"},
		{"no instruction of the first Proto", "proto 0 0\ncode\nproto 0 0\ncode\nreturn 0\n"},
		{"a proto line without numbers", "proto\ncode\nreturn 0\n"},
		{"a proto line with one number", "proto 0\ncode\nreturn 0\n"},
		{"a proto line with one number and a blank", "proto 0 \ncode\nreturn 0\n"},
		{"a proto line with three numbers", "proto 0 0 0\ncode\nreturn 0\n"},
		{"an instruction without a number", "proto 0 0\ncode\nreturn\n"},
		{"an instruction with a blank for a number", "proto 0 0\ncode\nreturn \n"},
		{"an instruction with two numbers", "proto 0 0\ncode\nreturn 0 0\n"},
		{"an up line without a number", strings.Replace(nearListing, "local 0\n", "local\n", 1)},
		{"all backwards", ofLines(backwards(lines)...)},
		{"a remark", nearListing + "-- a remark\n"},
		{"the program itself", "return 1;\n"},
		{"with what begins some files", "\ufeff" + nearListing},
	} {
		checkNoListing(t, one.name, one.text)
	}
}

// Each line taken away, put twice, put elsewhere: as the model says, and mostly no listing.
func TestLinesMoved(t *testing.T) {
	t.Parallel()
	for _, listing := range []string{nearListing, fullListing, ofLines("proto 0 3", "code", "nil 0", "set 0", "local 0", "pop 0", "jump 1", "return 0")} {
		lines := listedLines(listing)
		right, wrong := 0, 0
		look := func(name string, turned []string) {
			if checkRead(t, name, ofLines(turned...)) {
				right++
			} else {
				wrong++
			}
		}
		for i, line := range lines {
			without := slices.Delete(slices.Clone(lines), i, i+1)
			look("taken away", without)
			for k := range lines {
				look("put twice", slices.Insert(slices.Clone(lines), k, line))
				look("put elsewhere", slices.Insert(slices.Clone(without), k, line))
			}
		}
		if right < 10 || wrong < 10 {
			t.Error("too few of either kind:", right, "right", wrong, "wrong, of", listing)
		}
	}
}

// The form of a listing, but of no module that a machine runs.
func TestListingsOfNoRightModule(t *testing.T) {
	for _, text := range []string{
		"proto 1 1\ncode\nreturn 0\n",
		"proto 0 21\ncode\nreturn 0\n",
		"proto 0 0\nlocal 0\ncode\nreturn 0\n",
		"proto 0 0\ncode\nnil 0\n",
		"proto 0 0\ncode\nreturn 1\n",
		"proto 0 0\ncode\nnil 1\nreturn 0\n",
		"proto 0 0\ncode\nbool 2\nreturn 0\n",
		"proto 0 0\ncode\ntext 0\nreturn 0\n",
		"text a\nproto 0 0\ncode\ntext 1\nreturn 0\n",
		"proto 0 2\ncode\nlocal 2\nreturn 0\n",
		"proto 0 0\ncode\nup 0\nreturn 0\n",
		"proto 0 0\ncode\nfn 1\nreturn 0\n",
		"proto 0 0\ncode\nop 0\nreturn 0\n",
		"proto 0 0\ncode\nop 11\nreturn 0\n",
		"proto 0 0\ncode\nturn 4\nreturn 0\n",
		"proto 0 0\ncode\njump 2\nreturn 0\n",
		"proto 0 0\ncode\ncall 41\nreturn 0\n",
		"proto 0 0\ncode\nlib 0\nreturn 0\n",
		"proto 0 0\ncode\nlib 12\nreturn 0\n",
		"proto 0 0\ncode\nreturn 0\nproto 2 1\ncode\nreturn 0\n",
		"proto 0 1\ncode\nfn 1\nreturn 0\nproto 0 0\nlocal 1\ncode\nreturn 0\n",
		"proto 0 1\ncode\nfn 1\nreturn 0\nproto 0 0\nup 0\ncode\nreturn 0\n",
		"text " + strings.Repeat("t", 161) + "\nproto 0 0\ncode\nreturn 0\n",
		strings.Repeat("text \n", 256) + "proto 0 0\ncode\nreturn 0\n",
		strings.Repeat("proto 0 0\ncode\nreturn 0\n", 101),
		"proto 0 0\ncode\nreturn 0\nproto 0 0\n" + strings.Repeat("up 0\n", 13) + "code\nreturn 0\n",
		"proto 0 0\ncode\n" + strings.Repeat("pop 0\n", 4000) + "return 0\n",
	} {
		if !wholeForm.MatchString(text) {
			t.Errorf("it has not the form: %.200q", text)
		}
		checkNoListing(t, "not right", text)
	}
	for _, text := range []string{
		"proto 0 20\ncode\nreturn 0\n",
		"text " + strings.Repeat("t", 160) + "\nproto 0 0\ncode\nreturn 0\n",
		strings.Repeat("text \n", 255) + "proto 0 0\ncode\nreturn 0\n",
		strings.Repeat("proto 0 0\ncode\nreturn 0\n", 100),
		"proto 0 0\ncode\nreturn 0\nproto 0 0\n" + strings.Repeat("up 0\n", 12) + "code\nreturn 0\n",
		"proto 0 0\ncode\n" + strings.Repeat("pop 0\n", 3999) + "return 0\n",
	} {
		if !checkRead(t, "right", text) {
			t.Errorf("not read: %.200q", text)
		}
	}
}

// oneByteOff looks at each text that has one byte less, one more, or another one, at each place.
func oneByteOff(t *testing.T, listing string, bytes []byte) {
	t.Helper()
	right, wrong := 0, 0
	look := func(name string, at int, text string) {
		if checkRead(t, fmt.Sprint(name, " at ", at), text) {
			right++
		} else {
			wrong++
		}
	}
	for at := range len(listing) + 1 {
		for _, b := range bytes {
			look("put in", at, listing[:at]+string([]byte{b})+listing[at:])
			if at < len(listing) && b != listing[at] {
				look("changed", at, listing[:at]+string([]byte{b})+listing[at+1:])
			}
		}
		if at < len(listing) {
			look("taken away", at, listing[:at]+listing[at+1:])
		}
	}
	if right < 20 || wrong < 5*right {
		t.Error("too few of either kind:", right, "right", wrong, "wrong, of", listing)
	}
}

func TestListingsWithOneByteOff(t *testing.T) {
	t.Parallel()
	var all []byte
	for b := range 256 {
		all = append(all, byte(b))
	}
	oneByteOff(t, nearListing, all)
	some := []byte("\n\r\x00\x1f \x7f\xff~+-0129aeot")
	oneByteOff(t, fullListing, some)
	for _, text := range []string{"local a = \"t u\"; if a { a = fn() { return a; }; }", "return {fn(a) { return fn() { return -a or 10; }; }};"} {
		listing, ok := impl.Listing(moduleOf(t, treeOf(t, text)))
		if !ok {
			t.Fatal("not listed")
		}
		oneByteOff(t, listing, some)
	}
}

// Bytes by chance, and listings cut and put together by chance.
func TestTextsByChanceThatAreRead(t *testing.T) {
	t.Parallel()
	r := rand.New(rand.NewSource(161))
	pieces := append(listedLines(nearListing), "text", "proto 0 0", "code", "return 0", "nil 0", "", " ", "up 0", "local 1", "int -1", "jump 0", "text 0")
	right := 0
	for range 30000 {
		var lines []string
		if r.Intn(2) == 0 {
			lines = append(lines, "proto 0 1", "code")
		}
		for range r.Intn(7) {
			lines = append(lines, pieces[r.Intn(len(pieces))])
		}
		lines = append(lines, "return 0")
		if checkRead(t, "pieces", ofLines(lines...)) {
			right++
		}
	}
	if right < 300 {
		t.Error("only", right, "are listings")
	}
	for range 3000 {
		b := make([]byte, r.Intn(60))
		r.Read(b)
		checkNoListing(t, "bytes", string(b))
		from, to := r.Intn(len(fullListing)+1), r.Intn(len(fullListing)+1)
		checkRead(t, "cut", fullListing[:from]+fullListing[to:])
	}
}

// longModule has a listing of so many bytes: lines of 6 bytes, some of 7.
func longModule(size int) impl.Module {
	rest := size - 3*len("proto 0 0\ncode\nreturn 0\n")
	count := rest / 6
	code := repeated(count, ins(impl.ONil, 0))
	for i := range rest % 6 {
		code[i] = ins(impl.OBool, 0)
	}
	cut := min(count, 3999)
	next := min(count, 2*3999)
	return impl.Module{Protos: []impl.Proto{{Code: ended(slices.Clone(code[:cut])...)}, {Code: ended(slices.Clone(code[cut:next])...)}, {Code: ended(slices.Clone(code[next:])...)}}}
}

func TestLongListings(t *testing.T) {
	for _, size := range []int{72, 59998, 59999, 60000, 60001, 60002, 60007} {
		m := longModule(size)
		text := checkListed(t, fmt.Sprint(size, " bytes"), m)
		if len(text) != size {
			t.Errorf("a listing of %d bytes, want %d", len(text), size)
		}
		if checkRead(t, fmt.Sprint(size, " bytes"), text) != (size <= impl.MaxListing) {
			t.Error(size, "bytes are read, or are not")
		}
	}
	// With Texts, too.
	for _, size := range []int{60000, 60001} {
		m := longModule(size - 255*166)
		m.Texts = repeated(255, strings.Repeat("~", 160))
		if text := checkListed(t, "Texts", m); len(text) != size || checkRead(t, "Texts", text) != (size == 60000) {
			t.Error(size, "bytes with Texts are read, or are not")
		}
	}
	// The greatest code that there is.
	m := impl.Module{Protos: repeated(100, impl.Proto{Slots: 20, Code: ended(repeated(3999, ins(impl.OInt, -1<<63))...)})}
	text, ok := impl.Listing(m)
	if want := 100 * (len("proto 0 20\ncode\nreturn 0\n") + 3999*len("int -9223372036854775808\n")); !ok || len(text) != want {
		t.Error("the greatest code:", ok, len(text), "bytes")
	}
	checkNoListing(t, "the greatest code", text)
	for _, n := range []int{59999, 60000, 60001, 1 << 20} {
		for _, b := range []string{"\n", " ", "a", "0", "\xff"} {
			checkNoListing(t, "one byte often", strings.Repeat(b, n))
		}
	}
	checkNoListing(t, "lines for ever", strings.Repeat("text \n", 10000))
	checkNoListing(t, "Protos for ever", strings.Repeat("proto 0 0\n", 6000))
	checkNoListing(t, "Ups for ever", "proto 0 0\n"+strings.Repeat("up 0\n", 11000)+"code\nreturn 0\n")
}
