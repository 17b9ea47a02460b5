package tests

import (
	"slices"
	"strings"
	"testing"

	"loop.example/g01381/impl"
)

// checkedBytes returns bytes, and their check number.
func checkedBytes(body string) string {
	check := 0
	for i := range len(body) {
		check = (947*check + int(body[i]) + 211) % 65003
	}
	return body + string([]byte{byte(check % 256), byte(check / 256)})
}

// bodyOf returns the bytes before the check number, valid or not, as far as they
// are bytes.
func bodyOf(s impl.Saved) string {
	numbers := slices.Concat([]int64{s.Rule.States, s.Rule.Reach}, s.Rule.Table, []int64{s.Field.Rows, s.Field.Columns}, s.Field.Cells)
	body := []byte("CEL1" + string([]byte{byte(len(s.Name))}) + s.Name)
	for _, n := range numbers {
		body = append(body, byte(n))
	}
	return string(body)
}

// storedOf returns the bytes of what is saved.
func storedOf(s impl.Saved) string { return checkedBytes(bodyOf(s)) }

// goodNames are names.
func goodNames() []string {
	return []string{"a", "z", "az", "life", "abcdefg", "zzzzzzzz", "abcdefgh"}
}

// badNames are texts that are no names.
func badNames() []string {
	return []string{"", "abcdefghi", "A", "Z", "aB", "a1", "0", "a b", " ", " a", "a ", "`", "{", "a\x00", "\x00", "a\n", "\xff", "\u00e4", "a\u00e9", "_", "-", "a,b", strings.Repeat("a", 255), strings.Repeat("a", 256), strings.Repeat("a", 257)}
}

// goodSaved returns what can be saved: all shapes of rules, and fields of all
// extents.
func goodSaved(seed uint64) []impl.Saved {
	l := &luck{seed}
	var list []impl.Saved
	for i, s := range extents() {
		name := goodNames()[i%len(goodNames())]
		list = append(list, impl.Saved{Name: name, Rule: l.rule(2+l.below(2), int64(i%3)), Field: l.field(s[0], s[1], impl.MaxCell)})
	}
	for _, r := range drawnRules(1) {
		list = append(list, impl.Saved{Name: goodNames()[l.below(7)], Rule: r, Field: l.field(1+l.below(4), 1+l.below(4), impl.MaxCell)})
	}
	return append(list, smallSaved(), impl.Saved{Name: "abcdefgh", Rule: l.rule(3, 2), Field: evenField(24, 24, 9)})
}

// smallSaved returns something of 16 bytes that can be saved.
func smallSaved() impl.Saved {
	return impl.Saved{Name: "a", Rule: impl.Rule{States: 2, Table: []int64{0, 1}}, Field: fieldOf("19")}
}

// badSaved returns what is not valid.
func badSaved() []impl.Saved {
	small := smallSaved()
	list := []impl.Saved{{}, {Name: "a"}, {Name: "a", Rule: small.Rule}, {Name: "a", Field: small.Field}, {Rule: small.Rule, Field: small.Field}}
	for _, name := range badNames() {
		list = append(list, impl.Saved{Name: name, Rule: small.Rule, Field: small.Field})
	}
	for _, r := range badRules() {
		list = append(list, impl.Saved{Name: "a", Rule: r, Field: small.Field})
	}
	for _, f := range badFields() {
		list = append(list, impl.Saved{Name: "a", Rule: small.Rule, Field: f})
	}
	// These have the same lowest bytes as what is valid.
	return append(list,
		impl.Saved{Name: "a", Rule: impl.Rule{States: 258, Table: []int64{0, 1}}, Field: small.Field},
		impl.Saved{Name: "a", Rule: impl.Rule{States: 2, Reach: 256, Table: []int64{0, 1}}, Field: small.Field},
		impl.Saved{Name: "a", Rule: impl.Rule{States: 2, Table: []int64{0, 257}}, Field: small.Field},
		impl.Saved{Name: "a", Rule: small.Rule, Field: impl.Field{Rows: 257, Columns: 2, Cells: []int64{1, 9}}},
		impl.Saved{Name: "a", Rule: small.Rule, Field: impl.Field{Rows: 1, Columns: 2, Cells: []int64{1, 256}}},
		impl.Saved{Name: "a", Rule: small.Rule, Field: impl.Field{Rows: 1, Columns: 2, Cells: []int64{1 << 40, 9}}},
	)
}

// readOf returns what some bytes, all of them, are stored of. It takes them apart
// from both ends, and then tells whether they are so stored.
func readOf(s string) (impl.Saved, bool) {
	var none impl.Saved
	if len(s) < 6 || s[:4] != "CEL1" || len(s) < 5+int(s[4]) {
		return none, false
	}
	var one impl.Saved
	one.Name = s[5 : 5+int(s[4])]
	var numbers []int64
	for i := 5 + len(one.Name); i < len(s)-2; i++ {
		numbers = append(numbers, int64(s[i]))
	}
	sizes := map[[2]int64]int{{2, 0}: 2, {2, 1}: 8, {2, 2}: 32, {3, 0}: 3, {3, 1}: 27, {3, 2}: 243}
	if len(numbers) < 2 {
		return none, false
	}
	size, ok := sizes[[2]int64(numbers)]
	if !ok || len(numbers) < 4+size {
		return none, false
	}
	one.Rule = impl.Rule{States: numbers[0], Reach: numbers[1], Table: numbers[2 : 2+size]}
	one.Field = impl.Field{Rows: numbers[2+size], Columns: numbers[3+size], Cells: numbers[4+size:]}
	if !impl.IsName(one.Name) || !impl.ValidRule(one.Rule) || !impl.ValidField(one.Field) || storedOf(one) != s {
		return none, false
	}
	return one, true
}

// recoveredOf returns what some bytes begin with, by trying all lengths.
func recoveredOf(s string) ([]impl.Saved, int64) {
	var list []impl.Saved
	end := 0
search:
	for len(list) < impl.MaxSaved {
		for next := end + 1; next <= len(s); next++ {
			if one, ok := readOf(s[end:next]); ok {
				list, end = append(list, one), next
				continue search
			}
		}
		break
	}
	return list, int64(end)
}

// wantLoaded checks LoadSaved and RecoverAll of some bytes.
func wantLoaded(t *testing.T, what, s string) {
	t.Helper()
	got := all(impl.LoadSaved(s))
	if want, ok := readOf(s); ok {
		wantOnly(t, what, got, want)
	} else {
		wantNone(t, what, got)
	}
	wantRecovered(t, what, s)
}

// wantRecovered checks RecoverAll of some bytes.
func wantRecovered(t *testing.T, what, s string) {
	t.Helper()
	list, end := recoveredOf(s)
	wantAll(t, what, all(impl.RecoverAll(s)), list, end)
}

func TestValidSaved(t *testing.T) {
	for _, s := range goodSaved(863) {
		wantBool(t, named("ValidSaved", s), impl.ValidSaved(s), true)
	}
	for _, s := range badSaved() {
		wantBool(t, named("ValidSaved", s), impl.ValidSaved(s), false)
	}
	for _, name := range goodNames() {
		s := smallSaved()
		s.Name = name
		wantBool(t, named("ValidSaved", s), impl.ValidSaved(s), true)
	}
}

func TestSameSaved(t *testing.T) {
	some := append(badSaved(), goodSaved(877)...)
	small := smallSaved()
	for i, a := range some {
		for k, b := range some {
			is := shown(a) == shown(b) && a.Name == b.Name
			wantBool(t, named("SameSaved", a, b), impl.SameSaved([]impl.Saved{a}, []impl.Saved{b}), is)
			if i%7 == k%7 {
				wantBool(t, named("SameSaved of two", a, b), impl.SameSaved([]impl.Saved{small, a}, []impl.Saved{small, b}), is)
				wantBool(t, named("SameSaved of two", a, b), impl.SameSaved([]impl.Saved{a, small}, []impl.Saved{b, small}), is)
			}
		}
		wantBool(t, named("SameSaved of a longer list", a), impl.SameSaved([]impl.Saved{a}, []impl.Saved{a, a}) || impl.SameSaved([]impl.Saved{a, a}, []impl.Saved{a}) || impl.SameSaved(nil, []impl.Saved{a}) || impl.SameSaved([]impl.Saved{a}, nil), false)
	}
	wantBool(t, "SameSaved of nothing", impl.SameSaved(nil, []impl.Saved{}), true)
	wantBool(t, "SameSaved of empty lists", impl.SameSaved([]impl.Saved{{}}, []impl.Saved{{Rule: impl.Rule{Table: []int64{}}, Field: impl.Field{Cells: []int64{}}}}), true)
	wantBool(t, "SameSaved in another order", impl.SameSaved([]impl.Saved{small, {}}, []impl.Saved{{}, small}), false)
	wantBool(t, "SameSaved of long lists", impl.SameSaved(many(small, 99), many(small, 99)), true)
}

func TestStoreSaved(t *testing.T) {
	for _, s := range goodSaved(881) {
		stored, ok := impl.StoreSaved(s)
		wantOnly(t, named("StoreSaved", s), all(stored, ok), storedOf(s))
		// Promise 8: rules and fields are loaded as they were stored.
		back, ok := impl.LoadSaved(stored)
		wantBool(t, named("LoadSaved", s), ok && impl.SameSaved([]impl.Saved{back}, []impl.Saved{s}), true)
	}
	for _, s := range badSaved() {
		wantNone(t, named("StoreSaved", s), all(impl.StoreSaved(s)))
		for at := range 3 {
			list := many(smallSaved(), 3)
			list[at] = s
			wantNone(t, named("StoreAll", list), all(impl.StoreAll(list)))
		}
		// What is not valid is not loaded, whatever its check number is.
		if len(s.Rule.Table) < 300 && len(s.Field.Cells) < 700 {
			wantLoaded(t, named("LoadSaved of what is not valid", s), storedOf(s))
		}
	}
	small, check := smallSaved(), "\x01\x02\x01\x09"
	stored, _ := impl.StoreSaved(small)
	if body := "CEL1\x01a\x02\x00\x00\x01" + check; stored[:14] != body || stored != checkedBytes(body) || len(stored) != 16 {
		t.Errorf("StoreSaved: got %q", stored)
	}
}

func TestLoadSaved(t *testing.T) {
	l := &luck{883}
	broken := 0
	for _, s := range []impl.Saved{smallSaved(), {Name: "abcdefgh", Rule: l.rule(2, 1), Field: l.field(2, 3, 9)}, {Name: "wave", Rule: l.rule(3, 0), Field: l.field(3, 1, 9)}} {
		stored := storedOf(s)
		for at := range len(stored) {
			wantLoaded(t, named("LoadSaved, cut", at), stored[:at])
			wantNone(t, named("LoadSaved, cut", at), all(impl.LoadSaved(stored[:at])))
			for other := range 256 {
				bent := stored[:at] + string([]byte{byte(other)}) + stored[at+1:]
				wantLoaded(t, named("LoadSaved, bent", at, other), bent)
				broken += boolNumber(!succeeds(all(impl.LoadSaved(bent))))
				// With a check number that is right, only what is valid is loaded.
				if at < len(stored)-2 {
					wantLoaded(t, named("LoadSaved, bent and checked", at, other), checkedBytes(bent[:len(bent)-2]))
				}
			}
			wantLoaded(t, named("LoadSaved without a byte", at), stored[:at]+stored[at+1:])
			wantLoaded(t, named("LoadSaved with a byte twice", at), stored[:at+1]+stored[at:])
		}
		for other := range 256 {
			wantLoaded(t, named("LoadSaved with one more", other), stored+string([]byte{byte(other)}))
			wantNone(t, named("LoadSaved with one more", other), all(impl.LoadSaved(stored+string([]byte{byte(other)}))))
			wantNone(t, named("LoadSaved with one before", other), all(impl.LoadSaved(string([]byte{byte(other)})+stored)))
			wantLoaded(t, named("LoadSaved with one more, checked", other), checkedBytes(bodyOf(s)+string([]byte{byte(other)})))
		}
		wantNone(t, "LoadSaved of two", all(impl.LoadSaved(stored+stored)))
		if want := len(stored) * 255; broken != want {
			t.Errorf("LoadSaved of bytes that are bent: %d of %d are not loaded", broken, want)
		}
		broken = 0
	}
	for _, s := range []string{"", "C", "CEL", "CEL1", "CEL1\x00", "CEL1\x01", "CEL2", "cel1", "CEL1\xff", strings.Repeat("CEL1", 300), strings.Repeat("\xff", 1000), strings.Repeat("\x00", 1000)} {
		wantLoaded(t, named("LoadSaved", s), s)
		wantNone(t, named("LoadSaved", s), all(impl.LoadSaved(s)))
	}
}

// Sizes that the rest does not have: each of them may be any byte.
func TestLoadSavedOfSizes(t *testing.T) {
	fine := 0
	for states := range 256 {
		for reach := range 256 {
			if states < 6 || reach < 5 || states > 250 || reach > 250 {
				body := "CEL1\x01a" + string([]byte{byte(states), byte(reach)}) + strings.Repeat("\x01", 300)
				wantNone(t, named("LoadSaved of states and a reach", states, reach), all(impl.LoadSaved(checkedBytes(body))))
				wantAll(t, named("RecoverAll of states and a reach", states, reach), all(impl.RecoverAll(checkedBytes(body))), []impl.Saved(nil), int64(0))
			}
		}
	}
	for rows := range 256 {
		for columns := range 256 {
			if rows < 6 || columns < 6 || rows > 253 || columns > 253 || rows*columns == 24 {
				s := checkedBytes("CEL1\x01a\x02\x00\x00\x01" + string([]byte{byte(rows), byte(columns)}) + strings.Repeat("\x09", 24))
				got := all(impl.LoadSaved(s))
				if rows*columns == 24 {
					fine++
					wantOnly(t, named("LoadSaved of rows and columns", rows, columns), got, impl.Saved{Name: "a", Rule: impl.Rule{States: 2, Table: []int64{0, 1}}, Field: evenField(int64(rows), int64(columns), 9)})
				} else {
					wantNone(t, named("LoadSaved of rows and columns", rows, columns), got)
				}
			}
		}
	}
	wantBool(t, "the numbers of rows and columns with 24 cells", fine == 8, true)
	for size := range 256 {
		s := checkedBytes("CEL1" + string([]byte{byte(size)}) + "abcdefgh\x02\x00\x00\x01\x01\x01\x00")
		wantBool(t, named("LoadSaved of a name with so many bytes", size), succeeds(all(impl.LoadSaved(s))), size == 8)
		wantLoaded(t, named("LoadSaved of a name with so many bytes", size), s)
	}
}

func TestStoreAll(t *testing.T) {
	some := goodSaved(887)
	for size := range 11 {
		list := some[size : 2*size]
		got := all(impl.StoreAll(list))
		if size > impl.MaxSaved {
			wantNone(t, named("StoreAll of so many", size), got)
			continue
		}
		want := ""
		for _, s := range list {
			want += storedOf(s)
		}
		wantOnly(t, named("StoreAll of so many", size), got, want)
		recovered, end, ok := impl.RecoverAll(want)
		wantBool(t, named("RecoverAll of so many", size), ok && end == int64(len(want)) && impl.SameSaved(recovered, list), true)
	}
	wantOnly(t, "StoreAll of nothing", all(impl.StoreAll(nil)), "")
	wantNone(t, "StoreAll of many", all(impl.StoreAll(many(smallSaved(), 300))))
}

func TestRecoverAll(t *testing.T) {
	l := &luck{907}
	wantAll(t, "RecoverAll of nothing", all(impl.RecoverAll("")), []impl.Saved(nil), int64(0))
	var list []impl.Saved
	whole := ""
	for range 3 {
		s := impl.Saved{Name: goodNames()[l.below(4)], Rule: l.rule(2+l.below(2), 0), Field: l.field(1+l.below(2), 1+l.below(3), 9)}
		list, whole = append(list, s), whole+storedOf(s)
	}
	first, second := int64(len(storedOf(list[0]))), int64(len(storedOf(list[0])+storedOf(list[1])))
	for at := range len(whole) + 1 {
		want, end := list[:0], int64(0)
		switch {
		case at == len(whole):
			want, end = list, int64(at)
		case int64(at) >= second:
			want, end = list[:2], second
		case int64(at) >= first:
			want, end = list[:1], first
		}
		wantAll(t, named("RecoverAll, cut", at), all(impl.RecoverAll(whole[:at])), want, end)
		wantRecovered(t, named("RecoverAll, cut", at), whole[:at])
		if at == len(whole) {
			continue
		}
		for _, by := range []byte{1, 2, 128, 255, byte(1 + l.below(255))} {
			bent := whole[:at] + string([]byte{whole[at] ^ by}) + whole[at+1:]
			wantAll(t, named("RecoverAll, bent", at, by), all(impl.RecoverAll(bent)), want, end)
			wantRecovered(t, named("RecoverAll, bent", at, by), bent)
		}
	}
	for _, more := range []string{"x", "CEL1", "CEL", "\x00\x00", whole[:len(whole)-1], strings.Repeat("C", 999)} {
		wantRecovered(t, named("RecoverAll with more", more), whole+more)
		wantRecovered(t, named("RecoverAll behind more", more), more+whole)
	}
}

// At most MaxSaved are recovered, and what is behind them is not looked at.
func TestRecoverAllOfMore(t *testing.T) {
	small := smallSaved()
	for size := range 12 {
		most := min(size, 8)
		whole := strings.Repeat(storedOf(small), size)
		wantAll(t, named("RecoverAll of so many", size), all(impl.RecoverAll(whole)), many(small, most), int64(16*most))
		wantAll(t, named("RecoverAll of so many, and more", size), all(impl.RecoverAll(whole+"CEL1")), many(small, most), int64(16*most))
		if size > 0 {
			cut := min(size-1, 8)
			wantAll(t, named("RecoverAll of so many, cut", size), all(impl.RecoverAll(whole[:len(whole)-1])), many(small, cut), int64(16*cut))
		}
	}
}
