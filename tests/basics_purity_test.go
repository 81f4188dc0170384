package tests

import (
	"math"
	"reflect"
	"slices"
	"strings"
	"testing"

	"loop.example/g01011/impl"
)

// Promise 1: every function returns for all arguments, modifies none, and is repeatable.

func extremeNumbers() []int64 {
	return []int64{
		math.MinInt64, math.MinInt64 + 1, -impl.MaxValue - 1, -impl.MaxValue, -65536, -1, 0, 1, 2, 3,
		11, 12, 65535, 65536, 1000000, 1000001, impl.MaxValue, impl.MaxValue + 1, math.MaxInt64 - 1, math.MaxInt64,
	}
}

func extremeTexts() []string {
	return []string{
		"", " ", "-", ",", "0", "-0", "01", "a", "a7", "7a", "1,2,3", "-1,-2", "1,,2", "9223372036854775808",
		"\x00", "\xff", "\xe2\x82", "a\xff b", "é", "\u2028", "a b\tc\n", "1\u00a02",
		strings.Repeat("z", 11), strings.Repeat("9", 5000), strings.Repeat(" ", 5000),
		strings.Repeat(",", 5000), strings.Repeat("1,", 5000), strings.Repeat("-", 5000), strings.Repeat("\xff", 5000),
	}
}

func extremeLists() [][]int64 {
	ramp := make([]int64, 200)
	for i := range ramp {
		ramp[i] = int64(100 - i)
	}
	return [][]int64{
		nil, {}, {0}, {5, -3, 4}, {1, 1, 1}, ramp[:impl.MaxList], ramp[:impl.MaxList+1], ramp, extremeNumbers(),
		{impl.MaxValue, -impl.MaxValue}, {impl.MaxValue + 1},
	}
}

// resultsOfBasics calls every function of chapter 1 with all the arguments.
func resultsOfBasics(texts []string, numbers []int64, lists [][]int64) []any {
	var all []any
	keep := func(results ...any) { all = append(all, results...) }
	for _, s := range texts {
		n, isNumber := impl.ReadDecimal(s)
		list, isList := impl.ReadList(s)
		keep(impl.IsName(s), n, isNumber, list, isList, impl.SplitWords(s))
		for _, start := range numbers {
			keep(impl.Crc16(s, start))
		}
	}
	for _, list := range lists {
		keep(impl.ListText(list))
	}
	for _, a := range numbers {
		keep(impl.CodeName(a), impl.Decimal(a), impl.RootOf(a))
		for _, b := range numbers {
			keep(impl.DivRound(a, b))
			for _, c := range numbers {
				keep(impl.Blend(a, b, c, -1, 2), impl.Blend(-1000000, a, 1000000, b, c), impl.Blend(a, 0, b, 3, c))
			}
		}
	}
	return all
}

func TestBasicsReturnAlwaysTheSame(t *testing.T) {
	first := resultsOfBasics(extremeTexts(), extremeNumbers(), extremeLists())
	second := resultsOfBasics(extremeTexts(), extremeNumbers(), extremeLists())
	if !reflect.DeepEqual(first, second) {
		t.Error("equal arguments have given different results")
	}
}

func TestFalseComesWithZeroValues(t *testing.T) {
	for _, s := range extremeTexts() {
		if n, ok := impl.ReadDecimal(s); !ok && n != 0 {
			t.Errorf("ReadDecimal(%q) = %d, false", s, n)
		}
		if list, ok := impl.ReadList(s); !ok && len(list) != 0 {
			t.Errorf("ReadList(%q) = %d, false", s, list)
		}
	}
}

func TestListTextKeepsItsArgument(t *testing.T) {
	for _, list := range extremeLists() {
		// The unused capacity of a slice belongs to the argument too.
		whole := append(slices.Clone(list), 77, -78, 79)
		before := slices.Clone(whole)
		impl.ListText(whole[:len(list)])
		if !slices.Equal(whole, before) {
			t.Errorf("ListText has changed %d to %d", before, whole)
		}
	}
}

func TestNilAndEmptyAreTheSame(t *testing.T) {
	if impl.ListText(nil) != impl.ListText([]int64{}) {
		t.Error("ListText tells nil from an empty list")
	}
}

func TestResultsAreNewMemory(t *testing.T) {
	list, _ := impl.ReadList("1,2,3")
	overwrite(list, -9)
	if again, ok := impl.ReadList("1,2,3"); !ok || !slices.Equal(again, []int64{1, 2, 3}) {
		t.Errorf("ReadList gives %d after its result was changed", again)
	}
	words := impl.SplitWords("a b c")
	overwrite(words, "changed")
	if again := impl.SplitWords("a b c"); !slices.Equal(again, []string{"a", "b", "c"}) {
		t.Errorf("SplitWords gives %q after its result was changed", again)
	}
}

// overwrite fills a slice and its unused capacity.
func overwrite[T any](list []T, value T) {
	list = list[:cap(list)]
	for i := range list {
		list[i] = value
	}
}

func TestBasicsMayBeCalledAtOnce(t *testing.T) {
	const workers = 4
	results := make(chan []any, workers)
	for range workers {
		go func() {
			results <- resultsOfBasics(extremeTexts()[:10], extremeNumbers()[4:12], extremeLists())
		}()
	}
	first := <-results
	for range workers - 1 {
		if !reflect.DeepEqual(first, <-results) {
			t.Error("calls at the same time have given different results")
		}
	}
}
