package tests

import (
	"math"
	"slices"
	"testing"

	"loop.example/g01920/impl"
)

func TestAccountExampleOfTheDocument(t *testing.T) {
	if impl.MinGrant != 8 || impl.MaxGrant != 60 {
		t.Error("the limits of a grant are not those of the document")
	}
	account := charged(t, newAccount(t, 20), 18)
	expectAccount(t, "Charge(18)", account, impl.Account{Used: 18, Grant: 20, Peak: 18})
	expectNoCharge(t, account, 3)
	expectAccount(t, "Charge(2)", charged(t, account, 2), impl.Account{Used: 20, Grant: 20, Peak: 20})
}

func TestNewAccountOfEveryGrant(t *testing.T) {
	for grant := 8; grant <= 60; grant++ {
		account := newAccount(t, grant)
		expectAccount(t, "NewAccount", account, impl.Account{Grant: grant})
		expectValidAccount(t, account, true)
		expectExcess(t, account, 0)
	}
}

func TestNewAccountOfNoGrant(t *testing.T) {
	for _, grant := range grantsOutOfRange() {
		account, ok := impl.NewAccount(grant)
		expectSuccess(t, "NewAccount", ok, false)
		expectAccount(t, "NewAccount", account, impl.Account{})
	}
}

func TestIsValidAccountMeetsEachBound(t *testing.T) {
	for _, account := range []impl.Account{
		{Grant: 8},
		{Grant: 60},
		{Grant: 20, Used: 0, Peak: 30},
		{Grant: 20, Used: 30, Peak: 30},
		{Grant: 20, Used: 0, Peak: 0},
		{Grant: 20, Used: 0, Peak: 60},
		{Grant: 8, Used: 60, Peak: 60},
		{Grant: 20, Used: 10, Peak: 15, Overcommits: 0},
		{Grant: 20, Used: 10, Peak: 15, Overcommits: 1000},
		{Grant: 60, Used: 60, Peak: 60, Overcommits: 1000},
	} {
		expectValidAccount(t, account, true)
	}
}

func TestIsValidAccountMissesOneBound(t *testing.T) {
	for _, account := range []impl.Account{
		{},
		{Grant: 7},
		{Grant: 61},
		{Grant: 20, Used: -1, Peak: 30},
		{Grant: 20, Used: -1, Peak: -1},
		{Grant: 20, Used: 0, Peak: -1},
		{Grant: 20, Used: 31, Peak: 30},
		{Grant: 20, Used: 1, Peak: 0},
		{Grant: 20, Used: 0, Peak: 61},
		{Grant: 60, Used: 61, Peak: 61},
		{Grant: 20, Used: 10, Peak: 15, Overcommits: -1},
		{Grant: 20, Used: 10, Peak: 15, Overcommits: 1001},
	} {
		expectValidAccount(t, account, false)
	}
}

// Whether an account is valid is said here by the numbers that each field may
// have, and not by comparisons.
func TestIsValidAccountOfEveryBound(t *testing.T) {
	grants := numbersFrom(8, 60)
	peaks := numbersFrom(0, 60)
	overcommits := numbersFrom(0, 1000)
	numbers := append(boundaryNumbers(), 7, 8, 9, 30, 59, 60, 61, 999, 1000, 1001)
	for _, used := range numbers {
		for _, grant := range numbers {
			for _, peak := range numbers {
				for _, count := range numbers {
					account := impl.Account{Used: used, Grant: grant, Peak: peak, Overcommits: count}
					want := grants[grant] && peaks[peak] && numbersFrom(0, peak)[used] && overcommits[count]
					expectValidAccount(t, account, want)
				}
			}
		}
	}
}

func TestChargeThatExactlyReachesTheGrant(t *testing.T) {
	for grant := 8; grant <= 60; grant++ {
		for used := 0; used <= grant; used++ {
			account := charged(t, newAccount(t, grant), used)
			expectAccount(t, "Charge", account, impl.Account{Used: used, Grant: grant, Peak: used})
			full := impl.Account{Used: grant, Grant: grant, Peak: grant}
			expectAccount(t, "Charge", charged(t, account, grant-used), full)
			expectNoCharge(t, account, grant-used+1)
		}
	}
}

func TestChargeRaisesPeakOnlyIfUsedIsLarger(t *testing.T) {
	account := impl.Account{Used: 5, Grant: 20, Peak: 10, Overcommits: 3}
	for _, c := range []struct{ n, peak int }{
		{0, 10}, {1, 10}, {4, 10}, {5, 10}, {6, 11}, {7, 12}, {14, 19}, {15, 20},
	} {
		want := impl.Account{Used: 5 + c.n, Grant: 20, Peak: c.peak, Overcommits: 3}
		expectAccount(t, "Charge", charged(t, account, c.n), want)
	}
	expectNoCharge(t, account, 16)
	beyond := impl.Account{Used: 5, Grant: 20, Peak: 40, Overcommits: 1}
	want := impl.Account{Used: 20, Grant: 20, Peak: 40, Overcommits: 1}
	expectAccount(t, "Charge", charged(t, beyond, 15), want)
	expectNoCharge(t, beyond, 16)
}

func TestChargeOfNothing(t *testing.T) {
	for _, account := range validAccounts() {
		got, ok := impl.Charge(account, 0)
		expectSuccess(t, "Charge(0)", ok, account.Used <= account.Grant)
		expectAccount(t, "Charge(0)", got, account)
	}
}

func TestReleaseOfNothing(t *testing.T) {
	for _, account := range validAccounts() {
		expectAccount(t, "Release(0)", released(t, account, 0), account)
	}
}

func TestAmountsOutOfRange(t *testing.T) {
	for _, account := range validAccounts() {
		for _, n := range []int{-1, -2, -8, -60, -61, math.MinInt, math.MinInt + 1, 61, 62, math.MaxInt - 60, math.MaxInt - 1, math.MaxInt} {
			expectNoCharge(t, account, n)
			expectNoRelease(t, account, n)
		}
	}
}

func TestReleaseOfExactlyUsed(t *testing.T) {
	for _, account := range validAccounts() {
		want := account
		want.Used = 0
		expectAccount(t, "Release", released(t, account, account.Used), want)
		expectNoRelease(t, account, account.Used+1)
	}
}

func TestReleaseOfAPart(t *testing.T) {
	account := impl.Account{Used: 18, Grant: 10, Peak: 25, Overcommits: 2}
	for n := 0; n <= 18; n++ {
		want := impl.Account{Used: 18 - n, Grant: 10, Peak: 25, Overcommits: 2}
		expectAccount(t, "Release", released(t, account, n), want)
		expectExcess(t, released(t, account, n), max(0, 8-n))
	}
	for n := 19; n <= 61; n++ {
		expectNoRelease(t, account, n)
	}
}

func TestChargeThatIsReleasedAgain(t *testing.T) {
	for _, account := range validAccounts() {
		for n := 0; account.Used+n <= account.Grant; n++ {
			want := account
			want.Peak = max(account.Peak, account.Used+n)
			expectAccount(t, "Release", released(t, charged(t, account, n), n), want)
		}
	}
}

func TestSetGrantAroundUsed(t *testing.T) {
	account := impl.Account{Used: 18, Grant: 20, Peak: 25, Overcommits: 7}
	for grant := 8; grant <= 60; grant++ {
		want := impl.Account{Used: 18, Grant: grant, Peak: 25, Overcommits: 7}
		if grant < 18 {
			want.Overcommits = 8
		}
		got := granted(t, account, grant)
		expectAccount(t, "SetGrant", got, want)
		expectExcess(t, got, max(0, 18-grant))
	}
}

func TestSetGrantOfAnAccountInExcess(t *testing.T) {
	account := impl.Account{Used: 18, Grant: 10, Peak: 18, Overcommits: 1}
	for _, c := range []struct{ grant, overcommits int }{
		{8, 2}, {9, 2}, {10, 2}, {11, 2}, {17, 2}, {18, 1}, {19, 1}, {60, 1},
	} {
		want := impl.Account{Used: 18, Grant: c.grant, Peak: 18, Overcommits: c.overcommits}
		expectAccount(t, "SetGrant", granted(t, account, c.grant), want)
	}
}

func TestSetGrantOfNoGrant(t *testing.T) {
	for _, account := range validAccounts() {
		for _, grant := range grantsOutOfRange() {
			expectNoGrant(t, account, grant)
		}
	}
}

func TestSetGrantAtTheLastOvercommit(t *testing.T) {
	account := impl.Account{Used: 18, Grant: 20, Peak: 18, Overcommits: 999}
	same := granted(t, account, 18)
	expectAccount(t, "SetGrant(18)", same, impl.Account{Used: 18, Grant: 18, Peak: 18, Overcommits: 999})
	last := granted(t, same, 17)
	expectAccount(t, "SetGrant(17)", last, impl.Account{Used: 18, Grant: 17, Peak: 18, Overcommits: 1000})
	expectValidAccount(t, last, true)
	for grant := 8; grant <= 60; grant++ {
		expectNoGrant(t, last, grant)
	}
	expectExcess(t, last, 1)
	within := released(t, last, 1)
	expectAccount(t, "Release(1)", within, impl.Account{Used: 17, Grant: 17, Peak: 18, Overcommits: 1000})
	expectAccount(t, "Charge(0)", charged(t, within, 0), within)
	for grant := 8; grant <= 60; grant++ {
		expectNoGrant(t, within, grant)
	}
}

func TestOvercommitsAreCountedUpToTheLimit(t *testing.T) {
	account := charged(t, newAccount(t, 9), 9)
	for count := 1; count <= 1000; count++ {
		account = granted(t, account, 8)
		expectAccount(t, "SetGrant(8)", account, impl.Account{Used: 9, Grant: 8, Peak: 9, Overcommits: count})
		if count < 1000 {
			account = granted(t, account, 9)
		}
	}
	expectNoGrant(t, account, 9)
	expectNoGrant(t, account, 8)
}

func TestExcessAroundTheGrant(t *testing.T) {
	for grant := 8; grant <= 60; grant++ {
		for used := 0; used <= 60; used++ {
			account := impl.Account{Used: used, Grant: grant, Peak: 60}
			want := 0
			if used > grant {
				want = used - grant
			}
			expectExcess(t, account, want)
		}
	}
	expectExcess(t, impl.Account{Used: 60, Grant: 8, Peak: 60, Overcommits: 1000}, 52)
}

func TestInvalidAccountsAreUnchanged(t *testing.T) {
	for _, account := range invalidAccounts() {
		expectValidAccount(t, account, false)
		expectExcess(t, account, 0)
		for _, n := range append(boundaryNumbers(), 8, 20, 60, 61) {
			expectNoCharge(t, account, n)
			expectNoRelease(t, account, n)
			expectNoGrant(t, account, n)
		}
	}
}

// Only SetGrant leaves more in use than the grant: a charge ends within the
// grant, and neither a charge nor a release enlarges the excess.
func TestEveryAmountOnEveryAccount(t *testing.T) {
	for _, grant := range []int{8, 9, 31, 59, 60} {
		for peak := range 61 {
			for used := range peak + 1 {
				account := impl.Account{Used: used, Grant: grant, Peak: peak, Overcommits: used % 3}
				for n := range 61 {
					expectChargeWithinGrant(t, account, n)
					expectReleaseOfUsed(t, account, n)
				}
			}
		}
	}
}

func TestOnlyASmallerGrantLeavesExcess(t *testing.T) {
	for _, account := range validAccounts() {
		if account.Overcommits == 1000 {
			continue
		}
		for grant := 8; grant <= 60; grant++ {
			got := granted(t, account, grant)
			expectExcess(t, got, max(0, account.Used-grant))
			if grant >= account.Grant && impl.Excess(got) > impl.Excess(account) {
				t.Fatalf("the grant %d leaves more excess in %+v", grant, account)
			}
			expectAccount(t, "Release", released(t, got, impl.Excess(got)), impl.Account{
				Used: min(account.Used, grant), Grant: grant, Peak: account.Peak, Overcommits: got.Overcommits,
			})
		}
	}
}

func TestEveryShortSequenceOfAccountOperations(t *testing.T) {
	for _, places := range placesUpTo(5, 10) {
		expectHistory(t, 12, places)
	}
}

func TestLongSequencesOfAccountOperations(t *testing.T) {
	for factor := 1; factor <= 40; factor++ {
		places := make([]int, 500)
		state := factor
		for i := range places {
			state = (state*75 + factor) % 65537
			places[i] = state % 10
		}
		expectHistory(t, 8+factor%53, places)
	}
}

// accountHistory is what happened to an account. It keeps the memory that was
// in use after every charge and after every release.
type accountHistory struct {
	grant       int
	used        []int
	overcommits int
}

func (history accountHistory) account() impl.Account {
	return impl.Account{
		Used:        history.used[len(history.used)-1],
		Grant:       history.grant,
		Peak:        slices.Max(history.used),
		Overcommits: history.overcommits,
	}
}

// expectHistory applies one operation for each of the places.
func expectHistory(t *testing.T, grant int, places []int) {
	t.Helper()
	history := accountHistory{grant: grant, used: []int{0}}
	account := newAccount(t, grant)
	for _, place := range places {
		var ok, want bool
		if n := []int{0, 1, 5, 9}[place%4]; place < 4 {
			account, ok = impl.Charge(account, n)
			want = history.charge(n)
		} else if place < 7 {
			account, ok = impl.Release(account, n)
			want = history.release(n)
		} else {
			next := []int{8, 10, 14}[place-7]
			account, ok = impl.SetGrant(account, next)
			history.setGrant(next)
			want = true
		}
		expectSuccess(t, "the operation", ok, want)
		expectAccount(t, "the operation", account, history.account())
		expectValidAccount(t, account, true)
	}
}

func (history *accountHistory) charge(n int) bool {
	used := history.account().Used + n
	if used > history.grant {
		return false
	}
	history.used = append(history.used, used)
	return true
}

func (history *accountHistory) release(n int) bool {
	used := history.account().Used - n
	if used < 0 {
		return false
	}
	history.used = append(history.used, used)
	return true
}

func (history *accountHistory) setGrant(grant int) {
	history.grant = grant
	if history.account().Used > grant {
		history.overcommits++
	}
}

func expectChargeWithinGrant(t *testing.T, account impl.Account, n int) {
	t.Helper()
	want := account
	want.Used += n
	want.Peak = max(want.Peak, want.Used)
	if want.Used > account.Grant {
		expectNoCharge(t, account, n)
		return
	}
	got := charged(t, account, n)
	expectAccount(t, "Charge", got, want)
	if got.Used > got.Grant || impl.Excess(got) != 0 {
		t.Fatalf("Charge(%d) of %+v exceeds the grant", n, account)
	}
}

func expectReleaseOfUsed(t *testing.T, account impl.Account, n int) {
	t.Helper()
	if n > account.Used {
		expectNoRelease(t, account, n)
		return
	}
	want := account
	want.Used -= n
	got := released(t, account, n)
	expectAccount(t, "Release", got, want)
	if impl.Excess(got) > impl.Excess(account) {
		t.Fatalf("Release(%d) of %+v enlarges the excess", n, account)
	}
}

func expectAccount(t *testing.T, what string, got impl.Account, want impl.Account) {
	t.Helper()
	if got != want {
		t.Fatalf("%s returns %+v, want %+v", what, got, want)
	}
}

func expectValidAccount(t *testing.T, account impl.Account, want bool) {
	t.Helper()
	if got := impl.IsValidAccount(account); got != want {
		t.Fatalf("IsValidAccount(%+v) is %v", account, got)
	}
}

func expectExcess(t *testing.T, account impl.Account, want int) {
	t.Helper()
	if got := impl.Excess(account); got != want {
		t.Fatalf("Excess(%+v) is %d, want %d", account, got, want)
	}
}

func expectNoCharge(t *testing.T, account impl.Account, n int) {
	t.Helper()
	got, ok := impl.Charge(account, n)
	if ok || got != account {
		t.Fatalf("Charge(%+v, %d) returns %+v and %v", account, n, got, ok)
	}
}

func expectNoRelease(t *testing.T, account impl.Account, n int) {
	t.Helper()
	got, ok := impl.Release(account, n)
	if ok || got != account {
		t.Fatalf("Release(%+v, %d) returns %+v and %v", account, n, got, ok)
	}
}

func expectNoGrant(t *testing.T, account impl.Account, grant int) {
	t.Helper()
	got, ok := impl.SetGrant(account, grant)
	if ok || got != account {
		t.Fatalf("SetGrant(%+v, %d) returns %+v and %v", account, grant, got, ok)
	}
}

func newAccount(t *testing.T, grant int) impl.Account {
	t.Helper()
	account, ok := impl.NewAccount(grant)
	if !ok {
		t.Fatalf("NewAccount(%d) fails", grant)
	}
	return account
}

func charged(t *testing.T, account impl.Account, n int) impl.Account {
	t.Helper()
	result, ok := impl.Charge(account, n)
	if !ok {
		t.Fatalf("Charge(%+v, %d) fails", account, n)
	}
	return result
}

func released(t *testing.T, account impl.Account, n int) impl.Account {
	t.Helper()
	result, ok := impl.Release(account, n)
	if !ok {
		t.Fatalf("Release(%+v, %d) fails", account, n)
	}
	return result
}

func granted(t *testing.T, account impl.Account, grant int) impl.Account {
	t.Helper()
	result, ok := impl.SetGrant(account, grant)
	if !ok {
		t.Fatalf("SetGrant(%+v, %d) fails", account, grant)
	}
	return result
}

func boundaryNumbers() []int {
	return []int{math.MinInt, math.MinInt + 1, -1, 0, 1, math.MaxInt - 1, math.MaxInt}
}

func grantsOutOfRange() []int {
	return []int{math.MinInt, math.MinInt + 8, -60, -8, -1, 0, 1, 7, 61, 62, 120, math.MaxInt - 60, math.MaxInt}
}

// numbersFrom returns the numbers from low to high, without those above 1000,
// where no account has a limit.
func numbersFrom(low int, high int) map[int]bool {
	numbers := map[int]bool{}
	for n := low; n <= min(high, 1000); n++ {
		numbers[n] = true
	}
	return numbers
}

func validAccounts() []impl.Account {
	accounts := []impl.Account{}
	for _, grant := range []int{8, 9, 20, 59, 60} {
		for _, peak := range []int{0, 1, 8, 20, 21, 60} {
			for _, used := range []int{0, 1, peak / 2, peak} {
				for _, overcommits := range []int{0, 1, 999, 1000} {
					if used <= peak {
						accounts = append(accounts, impl.Account{
							Used: used, Grant: grant, Peak: peak, Overcommits: overcommits,
						})
					}
				}
			}
		}
	}
	return accounts
}

// invalidAccounts differ from a valid account in one number.
func invalidAccounts() []impl.Account {
	accounts := []impl.Account{{}}
	for _, used := range []int{math.MinInt, -1, 16, 61, math.MaxInt} {
		accounts = append(accounts, impl.Account{Used: used, Grant: 20, Peak: 15, Overcommits: 1})
	}
	for _, grant := range grantsOutOfRange() {
		accounts = append(accounts, impl.Account{Used: 10, Grant: grant, Peak: 15, Overcommits: 1})
	}
	for _, peak := range []int{math.MinInt, -1, 0, 9, 61, math.MaxInt} {
		accounts = append(accounts, impl.Account{Used: 10, Grant: 20, Peak: peak, Overcommits: 1})
	}
	for _, overcommits := range []int{math.MinInt, -1, 1001, math.MaxInt} {
		accounts = append(accounts, impl.Account{Used: 10, Grant: 20, Peak: 15, Overcommits: overcommits})
	}
	// An account in excess is invalid for the same reasons.
	return append(accounts,
		impl.Account{Used: 21, Grant: 20, Peak: 20, Overcommits: 1},
		impl.Account{Used: 61, Grant: 60, Peak: 61, Overcommits: 1},
		impl.Account{Used: 30, Grant: 20, Peak: 61, Overcommits: 1},
		impl.Account{Used: 30, Grant: 7, Peak: 30, Overcommits: 1},
		impl.Account{Used: 30, Grant: 20, Peak: 30, Overcommits: 1001},
	)
}
