package tests

import (
	"math/rand"
	"slices"
	"testing"

	"loop.example/g01011/impl"
)

// Which powers meet a demand.

// switchesOf returns for each digit of a text whether it is 1.
func switchesOf(text string) []bool {
	var on []bool
	for _, digit := range text {
		on = append(on, digit == '1')
	}
	return on
}

// allSwitches returns the texts of all ways in which some units can be on or off, in lexicographic order.
func allSwitches(units int) []string {
	texts := []string{""}
	for range units {
		var longer []string
		for _, text := range texts {
			longer = append(longer, text+"0", text+"1")
		}
		texts = longer
	}
	return texts
}

// limitsOf returns the least and the greatest power of the units that are on.
func limitsOf(list []impl.Unit, on []bool) (least, most int64) {
	for i, u := range list {
		if on[i] {
			least, most = least+u.Least, most+u.Most
		}
	}
	return least, most
}

// exactSharing takes all units that are on as far up as the demand allows; the dearest ones are the last to come.
func exactSharing(list []impl.Unit, on []bool, demand int64) (powers []int64, cost int64, isMet bool) {
	least, most := limitsOf(list, on)
	if demand < least || demand > most {
		return nil, 0, false
	}
	powers = make([]int64, len(list))
	left := demand - least
	for _, i := range byMerit(list) {
		if !on[i] {
			continue
		}
		u := list[i]
		powers[i] = u.Most
		if left < u.Most-u.Least {
			powers[i] = u.Least + left
		}
		left -= powers[i] - u.Least
		cost += powers[i] * u.Price
	}
	return powers, cost, true
}

// checkSharing compares the powers for a demand with what they should be; nil if the demand is not met.
func checkSharing(t *testing.T, list []impl.Unit, on string, demand int64, want []int64, wantCost int64) {
	t.Helper()
	wantCode := int64(impl.OK)
	if want == nil {
		wantCode = impl.ErrNotFound
	}
	got, cost, code := impl.ShareDemand(list, switchesOf(on), demand)
	if !slices.Equal(got, want) || cost != wantCost || code != wantCode {
		t.Errorf("ShareDemand(%+v, %s, %d) = %d, %d, %d, want %d, %d, %d", list, on, demand, got, cost, code, want, wantCost, wantCode)
	}
}

func TestShareDemand(t *testing.T) {
	two, same := twoUnits(), pricedUnits(5, 5, 5)
	three := unitsOf(unitOf(10, 20, 3, 0, 1, 1), unitOf(5, 50, 1, 0, 1, 1), unitOf(0, 30, 2, 0, 1, 1))
	cases := []struct {
		list   []impl.Unit
		on     string
		demand int64
		want   []int64
		cost   int64
	}{
		{two, "11", 120, []int64{60, 60}, 48000}, {two, "11", 25, nil, 0}, {two, "01", 50, []int64{0, 50}, 15000}, {two, "10", 50, []int64{50, 0}, 25000},
		// The dear one is cheap enough only while the other one is full.
		{two, "11", 69, []int64{10, 59}, 22700}, {two, "11", 70, []int64{10, 60}, 23000}, {two, "11", 71, []int64{11, 60}, 23500},
		// All of Least, all of Most, and one less or more.
		{two, "11", 29, nil, 0}, {two, "11", 30, []int64{10, 20}, 11000}, {two, "11", 31, []int64{10, 21}, 11300},
		{two, "11", 159, []int64{99, 60}, 67500}, {two, "11", 160, []int64{100, 60}, 68000}, {two, "11", 161, nil, 0},
		{two, "10", 9, nil, 0}, {two, "10", 10, []int64{10, 0}, 5000}, {two, "10", 100, []int64{100, 0}, 50000}, {two, "10", 101, nil, 0},
		{two, "01", 19, nil, 0}, {two, "01", 20, []int64{0, 20}, 6000}, {two, "01", 60, []int64{0, 60}, 18000}, {two, "01", 61, nil, 0},
		// Without units that are on, only the demand 0 is met, which units with a positive Least exceed.
		{two, "00", 0, []int64{0, 0}, 0}, {two, "00", 1, nil, 0}, {two, "00", mostDemand, nil, 0}, {two, "10", 0, nil, 0}, {two, "11", 0, nil, 0},
		{three, "001", 0, []int64{0, 0, 0}, 0}, {three, "000", 0, []int64{0, 0, 0}, 0},
		// Of units with the same price, the first ones are asked first.
		{same, "111", 30, []int64{10, 10, 10}, 150}, {same, "111", 31, []int64{11, 10, 10}, 155}, {same, "111", 121, []int64{100, 11, 10}, 605},
		{same, "011", 111, []int64{0, 100, 11}, 555}, {same, "101", 111, []int64{100, 0, 11}, 555}, {same, "111", 300, []int64{100, 100, 100}, 1500},
		{three, "111", 15, []int64{10, 5, 0}, 35}, {three, "111", 60, []int64{10, 50, 0}, 80}, {three, "111", 61, []int64{10, 50, 1}, 82},
		{three, "111", 90, []int64{10, 50, 30}, 140}, {three, "111", 91, []int64{11, 50, 30}, 143}, {three, "111", 100, []int64{20, 50, 30}, 170},
		{three, "101", 35, []int64{10, 0, 25}, 80}, {three, "110", 70, []int64{20, 50, 0}, 110}, {three, "110", 71, nil, 0}, {three, "111", 101, nil, 0},
	}
	for _, c := range cases {
		checkSharing(t, c.list, c.on, c.demand, c.want, c.cost)
	}
}

func TestShareDemandAtItsLimits(t *testing.T) {
	full := slices.Repeat([]int64{impl.MaxPower}, impl.MaxUnits)
	checkSharing(t, mostUnits(), "1111", mostDemand, full, mostDemand*impl.MaxPrice)
	checkSharing(t, mostUnits(), "1111", mostDemand-1, nil, 0)
	checkSharing(t, mostUnits(), "1110", mostDemand, nil, 0)
	checkSharing(t, mostUnits(), "0100", impl.MaxPower, []int64{0, impl.MaxPower, 0, 0}, impl.MaxPower*impl.MaxPrice)
	wide := unitsOf(slices.Repeat([]impl.Unit{unitOf(0, impl.MaxPower, impl.MaxPrice, 0, 1, 1)}, impl.MaxUnits)...)
	checkSharing(t, wide, "1111", mostDemand, full, mostDemand*impl.MaxPrice)
	checkSharing(t, wide, "1111", mostDemand-1, []int64{impl.MaxPower, impl.MaxPower, impl.MaxPower, impl.MaxPower - 1}, (mostDemand-1)*impl.MaxPrice)
	checkSharing(t, wide, "1111", 0, make([]int64, impl.MaxUnits), 0)
	checkSharing(t, []impl.Unit{unitOf(0, 1, 0, 0, 1, 1)}, "1", 1, []int64{1}, 0)
	checkSharing(t, []impl.Unit{unitOf(1, 1, 7, 0, 1, 1)}, "1", 1, []int64{1}, 7)
	checkSharing(t, []impl.Unit{unitOf(1, 1, 7, 0, 1, 1)}, "1", 2, nil, 0)
}

func TestShareAnyDemand(t *testing.T) {
	random := rand.New(rand.NewSource(142))
	for range 2000 {
		list := randomUnits(random, 1+random.Intn(impl.MaxUnits), 1+random.Int63n(impl.MaxPower)>>random.Intn(17))
		for _, on := range allSwitches(len(list)) {
			least, most := limitsOf(list, switchesOf(on))
			for _, demand := range []int64{0, least - 1, least, least + 1, (least + most) / 2, most - 1, most, most + 1, least + random.Int63n(most-least+1)} {
				if demand >= 0 && demand <= mostDemand {
					want, cost, _ := exactSharing(list, switchesOf(on), demand)
					checkSharing(t, list, on, demand, want, cost)
				}
			}
		}
	}
}

// cheapestPowers tries all powers of the units from one on, and returns the least cost; -1 if no powers meet the demand.
func cheapestPowers(list []impl.Unit, on []bool, demand int64) int64 {
	if len(list) == 0 {
		if demand == 0 {
			return 0
		}
		return -1
	}
	u, low, high := list[0], int64(0), int64(0)
	if on[0] {
		low, high = u.Least, u.Most
	}
	best := int64(-1)
	for power := low; power <= high; power++ {
		if rest := cheapestPowers(list[1:], on[1:], demand-power); rest >= 0 && (best < 0 || rest+power*u.Price < best) {
			best = rest + power*u.Price
		}
	}
	return best
}

func TestNoPowersAreCheaper(t *testing.T) {
	random := rand.New(rand.NewSource(143))
	for range 150 {
		list := randomUnits(random, 1+random.Intn(3), 6)
		for _, on := range allSwitches(len(list)) {
			for demand := range int64(20) {
				_, cost, code := impl.ShareDemand(list, switchesOf(on), demand)
				if least := cheapestPowers(list, switchesOf(on), demand); code == impl.OK && cost != least || code != impl.OK && least >= 0 {
					t.Errorf("ShareDemand(%+v, %s, %d) costs %d, %d, the least cost is %d", list, on, demand, cost, code, least)
				}
			}
		}
	}
}
