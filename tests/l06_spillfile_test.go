package tests

import (
	"math"
	"slices"
	"strings"
	"testing"

	"loop.example/g01920/impl"
)

func TestChecksumExampleOfTheDocument(t *testing.T) {
	expectChecksum(t, "a", 505)
	expectChecksum(t, "", 11)
	expectChecksum(t, "\x00", 408)
	expectChecksum(t, "\xff", 663)
	expectChecksum(t, "ab", 18784)
}

func TestChecksumOfEveryShortString(t *testing.T) {
	for _, s := range append(stringsUpTo(2, allBytes()), stringsUpTo(6, []byte("\x00[ 1\xff"))...) {
		expectChecksum(t, s, weighedChecksum(s))
	}
}

func TestChecksumOfLongStrings(t *testing.T) {
	for _, s := range []string{"\x00", "\xff", "a", "[1.1.3 2.2.3]", string(allBytes())} {
		for _, count := range []int{10, 100, 65521, 100000} {
			expectChecksum(t, strings.Repeat(s, count), weighedChecksum(strings.Repeat(s, count)))
		}
	}
}

func TestChecksumOfEveryChangedByte(t *testing.T) {
	const s = "[1.1.3 2.2.3][3.3.0]"
	for i := range len(s) {
		for _, c := range allBytes() {
			changed := s[:i] + string([]byte{c}) + s[i+1:]
			expectChecksum(t, changed, weighedChecksum(changed))
			if (impl.ChecksumOf(changed) == impl.ChecksumOf(s)) != (changed == s) {
				t.Fatalf("the byte %d at %d does not change the checksum", c, i)
			}
		}
	}
}

func TestDiskIsBuiltByCreatingFillingAndSealing(t *testing.T) {
	if impl.MaxDiskPages != 40 {
		t.Error("the number of pages is not that of the document")
	}
	pages := impl.PackPages(parsedRows(t, "1.1.3 2.2.3 3.3.0"))
	disk := created(t, impl.Disk{}, 0)
	expectDisk(t, disk, impl.Disk{NextName: 1, Files: []impl.File{{Name: 0}}})
	disk = created(t, appended(t, disk, 0, pages[0]), 1)
	disk = appended(t, appended(t, disk, 1, pages[1]), 0, pages[1])
	expectDisk(t, disk, impl.Disk{NextName: 2, Files: []impl.File{
		{Name: 0, Pages: pages},
		{Name: 1, Pages: pages[1:]},
	}})
	expectUnreadable(t, disk, 0)
	expectUnreadable(t, disk, 1)
	disk = sealed(t, disk, 0)
	expectDisk(t, disk, impl.Disk{NextName: 2, Files: []impl.File{
		{Name: 0, Pages: pages, Sealed: true, Checksum: weighedChecksum("[1.1.3 2.2.3][3.3.0]")},
		{Name: 1, Pages: pages[1:]},
	}})
	expectRead(t, disk, 0, parsedRows(t, "1.1.3 2.2.3 3.3.0"))
	expectUnreadable(t, disk, 1)
	disk = deleted(t, sealed(t, disk, 1), 0)
	expectDisk(t, disk, impl.Disk{NextName: 2, Files: []impl.File{
		{Name: 1, Pages: pages[1:], Sealed: true, Checksum: weighedChecksum("[3.3.0]")},
	}})
	expectUnreadable(t, disk, 0)
	expectRead(t, disk, 1, parsedRows(t, "3.3.0"))
	expectDisk(t, created(t, disk, 2), impl.Disk{NextName: 3, Files: append(disk.Files, impl.File{Name: 2})})
	expectDisk(t, deleted(t, disk, 1), impl.Disk{NextName: 2})
}

func TestFileThatIsTruncatedBeforeItIsSealed(t *testing.T) {
	pages := impl.PackPages(manyRows(24))
	whole := diskOf(t, pages, manyPages(2))
	for count := range len(pages) + 1 {
		open := created(t, sealed(t, whole, 0), 2)
		for _, page := range pages[:count] {
			open = appended(t, open, 2, page)
		}
		expectUnreadable(t, open, 2)
		// A crash before the seal leaves the first pages or none.
		for kept := range count + 1 {
			crashed := copyDisk(open)
			crashed.Files[2].Pages = crashed.Files[2].Pages[:kept]
			expectUnreadable(t, crashed, 1)
			expectUnreadable(t, crashed, 2)
			left := impl.DeleteUnreadableFiles(crashed)
			expectDisk(t, left, impl.Disk{NextName: 3, Files: crashed.Files[:1]})
			expectRead(t, left, 0, manyRows(24))
			expectUnreadable(t, left, 2)
			again := sealed(t, crashed, 2)
			expectRead(t, again, 2, impl.UnpackPages(pages[:kept]))
		}
	}
}

func TestFileThatIsTruncatedAfterItIsSealed(t *testing.T) {
	pages := impl.PackPages(manyRows(24))
	disk := sealed(t, sealed(t, diskOf(t, pages, manyPages(2)), 0), 1)
	for count := range len(pages) {
		crashed := copyDisk(disk)
		crashed.Files[0].Pages = crashed.Files[0].Pages[:count]
		expectUnreadable(t, crashed, 0)
		expectRead(t, crashed, 1, rowsOfManyPages(2))
		expectDisk(t, impl.DeleteUnreadableFiles(crashed), impl.Disk{NextName: 2, Files: disk.Files[1:]})
	}
	expectDisk(t, impl.DeleteUnreadableFiles(disk), disk)
}

func TestEmptyDisk(t *testing.T) {
	for _, disk := range []impl.Disk{{}, {Files: []impl.File{}}, {Files: make([]impl.File, 0, 4)}} {
		if !impl.IsValidDisk(disk) || impl.CountPages(disk) != 0 || !impl.EqualDisks(disk, impl.Disk{}) {
			t.Error("the empty disk is not valid, not empty or not equal to another")
		}
		expectDisk(t, impl.DeleteUnreadableFiles(disk), impl.Disk{})
		expectDisk(t, created(t, disk, 0), impl.Disk{NextName: 1, Files: []impl.File{{}}})
		for _, name := range append(namesOutOfRange(), 0, 1, 1000) {
			expectRefused(t, disk, name, impl.PackPages(manyRows(1))[0])
		}
	}
}

func TestEmptyFile(t *testing.T) {
	disk := sealed(t, created(t, created(t, impl.Disk{}, 0), 1), 1)
	expectDisk(t, disk, impl.Disk{NextName: 2, Files: []impl.File{{Name: 0}, {Name: 1, Sealed: true, Checksum: 11}}})
	expectUnreadable(t, disk, 0)
	expectRead(t, disk, 1, nil)
	expectDisk(t, impl.DeleteUnreadableFiles(disk), impl.Disk{NextName: 2, Files: disk.Files[1:]})
}

func TestFileThatDoesNotExist(t *testing.T) {
	disk := deleted(t, diskOf(t, manyPages(2), manyPages(1), nil, manyPages(3)), 1)
	for _, name := range append(namesOutOfRange(), 1, 4, 5, 999, 1000) {
		expectRefused(t, disk, name, manyPages(1)[0])
	}
	for _, name := range []int{0, 2, 3} {
		sealed(t, appended(t, disk, name, manyPages(1)[0]), name)
		deleted(t, disk, name)
	}
}

func TestFileThatIsSealed(t *testing.T) {
	disk := sealed(t, diskOf(t, manyPages(2), manyPages(1), nil), 1)
	disk = sealed(t, disk, 2)
	for _, name := range []int{1, 2} {
		for _, page := range manyPages(3) {
			got, ok := impl.AppendPage(disk, name, page)
			expectUnchanged(t, "AppendPage to a sealed file", disk, got, ok)
		}
		got, ok := impl.SealFile(disk, name)
		expectUnchanged(t, "SealFile of a sealed file", disk, got, ok)
		deleted(t, disk, name)
	}
	// A checksum that does not match leaves the file sealed.
	disk.Files[1].Checksum++
	got, ok := impl.AppendPage(disk, 1, manyPages(1)[0])
	expectUnchanged(t, "AppendPage to a damaged file", disk, got, ok)
	got, ok = impl.SealFile(disk, 1)
	expectUnchanged(t, "SealFile of a damaged file", disk, got, ok)
	deleted(t, disk, 1)
	appended(t, disk, 0, manyPages(1)[0])
}

func TestAppendOfPagesThatAreNotValid(t *testing.T) {
	disk := diskOf(t, manyPages(2), nil)
	for _, page := range invalidPages() {
		for name := range 2 {
			got, ok := impl.AppendPage(disk, name, page)
			expectUnchanged(t, "AppendPage of an invalid page", disk, got, ok)
		}
	}
}

func TestDeleteFileKeepsTheOthers(t *testing.T) {
	disk := sealed(t, diskOf(t, manyPages(1), manyPages(2), nil, manyPages(3)), 3)
	for name := range 4 {
		files := slices.Concat(copyDisk(disk).Files[:name], copyDisk(disk).Files[name+1:])
		remaining := deleted(t, disk, name)
		expectDisk(t, remaining, impl.Disk{NextName: 4, Files: files})
		expectRefused(t, remaining, name, manyPages(1)[0])
		expectDisk(t, created(t, remaining, 4), impl.Disk{NextName: 5, Files: append(files, impl.File{Name: 4})})
		for other := range 4 {
			if other != name {
				twice := deleted(t, remaining, other)
				if len(twice.Files) != 2 || twice.NextName != 4 {
					t.Errorf("without the files %d and %d: %v", name, other, twice)
				}
			}
		}
	}
}

func TestDeleteUnreadableFilesOfEveryMix(t *testing.T) {
	for _, states := range placesUpTo(5, 4) {
		disk := impl.Disk{NextName: 3 * len(states)}
		var kept []impl.File
		for i, state := range states {
			file := impl.File{Name: 3 * i, Pages: manyPages(1 + i)}
			switch state {
			case 1:
				file = sealByHand(file)
				file.Checksum = 65520 - file.Checksum
			case 2:
				file = sealByHand(file)
			case 3:
				file = sealByHand(impl.File{Name: 3 * i})
			}
			disk.Files = append(disk.Files, file)
			if state >= 2 {
				kept = append(kept, file)
			}
		}
		left := impl.DeleteUnreadableFiles(disk)
		expectDisk(t, left, impl.Disk{NextName: disk.NextName, Files: kept})
		expectDisk(t, impl.DeleteUnreadableFiles(left), left)
		for _, file := range disk.Files {
			_, readable := impl.ReadFile(disk, file.Name)
			_, survives := impl.ReadFile(left, file.Name)
			if readable != survives {
				t.Fatalf("file %d is readable: %v, survives: %v", file.Name, readable, survives)
			}
		}
	}
}

func TestDisksThatAreValid(t *testing.T) {
	for i, disk := range validDisks() {
		if !impl.IsValidDisk(disk) {
			t.Errorf("disk %d is rejected: %v", i, disk)
		}
		for _, file := range disk.Files {
			deleted(t, disk, file.Name)
		}
	}
}

func TestDisksThatAreNotValid(t *testing.T) {
	for i, disk := range invalidDisks() {
		if impl.IsValidDisk(disk) {
			t.Errorf("disk %d is accepted: %v", i, disk)
		}
		got, name, ok := impl.CreateFile(disk)
		expectUnchanged(t, "CreateFile on an invalid disk", disk, got, ok)
		if name != 0 {
			t.Errorf("CreateFile returns the name %d and false", name)
		}
		names := append(namesOutOfRange(), 0, 1, 2, 3, 4, 5, disk.NextName)
		for _, name := range names {
			expectRefused(t, disk, name, manyPages(1)[0])
		}
		expectDisk(t, impl.DeleteUnreadableFiles(disk), impl.Disk{NextName: disk.NextName})
	}
}

func TestLimitOfThePages(t *testing.T) {
	for _, counts := range [][]int{{40}, {40, 0}, {0, 40}, {39, 1}, {1, 39}, {20, 0, 20}, {13, 13, 14}, {10, 10, 10, 10}} {
		for last := range counts {
			var files [][]impl.Page
			for i, count := range counts {
				if i == last {
					count = max(count-1, 0)
				}
				files = append(files, manyPages(count))
			}
			disk := diskOf(t, files...)
			page := manyPages(1)[0]
			for impl.CountPages(disk) < 40 {
				disk = appended(t, disk, last, page)
			}
			if !impl.IsValidDisk(disk) {
				t.Fatalf("the disk with the pages %v is rejected", counts)
			}
			for name := range counts {
				got, ok := impl.AppendPage(disk, name, page)
				expectUnchanged(t, "AppendPage to a full disk", disk, got, ok)
			}
			full := sealed(t, disk, last)
			expectRead(t, full, last, impl.UnpackPages(full.Files[last].Pages))
			got, ok := impl.AppendPage(created(t, full, len(counts)), len(counts), page)
			expectUnchanged(t, "AppendPage of a new file", created(t, full, len(counts)), got, ok)
			if len(full.Files[last].Pages) > 0 {
				room := created(t, deleted(t, full, last), len(counts))
				appended(t, room, len(counts), page)
			}
		}
	}
}

func TestReadFileOfMoreRowsThanAnInputHas(t *testing.T) {
	disk := created(t, impl.Disk{}, 0)
	page := impl.Page{Rows: repeatRow(impl.Row{Key: 9, Value: 99}, 8)}
	for range 40 {
		disk = appended(t, disk, 0, page)
	}
	expectRead(t, sealed(t, disk, 0), 0, repeatRow(impl.Row{Key: 9, Value: 99}, 320))
}

func TestLimitOfTheNames(t *testing.T) {
	disk := impl.Disk{}
	for name := range 1000 {
		disk = created(t, disk, name)
	}
	if !impl.IsValidDisk(disk) || disk.NextName != 1000 || len(disk.Files) != 1000 {
		t.Fatal("the disk with a thousand files is rejected")
	}
	short := impl.Disk{NextName: 1000, Files: []impl.File{{Name: 999}}}
	for _, full := range []impl.Disk{disk, {NextName: 1000}, short} {
		got, name, ok := impl.CreateFile(full)
		expectUnchanged(t, "CreateFile after a thousand names", full, got, ok)
		if name != 0 {
			t.Errorf("CreateFile returns the name %d and false", name)
		}
	}
	expectDisk(t, created(t, impl.Disk{NextName: 999}, 999), short)
	for _, full := range []impl.Disk{disk, short} {
		whole := sealed(t, appended(t, full, 999, manyPages(1)[0]), 999)
		expectRead(t, whole, 999, rowsOfManyPages(1))
		expectRefused(t, whole, 1000, manyPages(1)[0])
		left := deleted(t, whole, 999)
		expectDisk(t, left, impl.Disk{NextName: 1000, Files: full.Files[:len(full.Files)-1]})
		// A name that is free again is not given out again.
		got, _, ok := impl.CreateFile(left)
		expectUnchanged(t, "CreateFile after a file is deleted", left, got, ok)
	}
}

func TestEveryOtherChecksumMakesAFileUnreadable(t *testing.T) {
	disk := sealed(t, sealed(t, diskOf(t, manyPages(1), manyPages(2)), 0), 1)
	right := disk.Files[1].Checksum
	others := []int{right + 65521, right - 65521, -right, math.MaxInt, math.MinInt, right + 1<<32}
	for checksum := range 65521 {
		others = append(others, checksum)
	}
	for _, checksum := range others {
		disk.Files[1].Checksum = checksum
		if rows, ok := impl.ReadFile(disk, 1); ok != (checksum == right) || !ok && len(rows) > 0 {
			t.Fatalf("ReadFile = %v, %v with the checksum %d of %d", rows, ok, checksum, right)
		}
	}
	disk.Files[1].Checksum = right + 1
	expectRead(t, disk, 0, rowsOfManyPages(1))
	expectDisk(t, impl.DeleteUnreadableFiles(disk), impl.Disk{NextName: 2, Files: disk.Files[:1]})
	disk.Files[1] = impl.File{Name: 1, Pages: disk.Files[1].Pages}
	expectUnreadable(t, disk, 1)
}

func TestUnsealedFileWhosePagesHaveTheChecksumZero(t *testing.T) {
	page := pageOfChecksumZero(t)
	open := diskOf(t, []impl.Page{page})
	expectUnreadable(t, open, 0)
	expectDisk(t, impl.DeleteUnreadableFiles(open), impl.Disk{NextName: 1})
	whole := sealed(t, open, 0)
	expectDisk(t, whole, impl.Disk{NextName: 1, Files: []impl.File{{Pages: []impl.Page{page}, Sealed: true}}})
	expectRead(t, whole, 0, page.Rows)
	expectDisk(t, impl.DeleteUnreadableFiles(whole), whole)
}

func TestEveryChangedNumberOfAPageMakesAFileUnreadable(t *testing.T) {
	original := sealed(t, sealed(t, diskOf(t, manyPages(4), manyPages(2)), 0), 1)
	for p, page := range original.Files[0].Pages {
		for r, row := range page.Rows {
			for _, other := range allRows() {
				if countDifferences(row, other) > 1 {
					continue
				}
				disk := copyDisk(original)
				disk.Files[0].Pages[p].Rows[r] = other
				expectReadableIfSame(t, disk, original)
			}
		}
	}
}

func TestEveryRearrangedPageMakesAFileUnreadable(t *testing.T) {
	original := sealed(t, sealed(t, diskOf(t, manyPages(6), manyPages(2)), 0), 1)
	count := len(original.Files[0].Pages)
	for p := range count {
		for q := range count {
			disk := copyDisk(original)
			pages := disk.Files[0].Pages
			pages[p], pages[q] = pages[q], pages[p]
			expectReadableIfSame(t, disk, original)
		}
		for q := range count + 1 {
			disk := copyDisk(original)
			disk.Files[0].Pages = slices.Insert(disk.Files[0].Pages, q, manyPages(count)[p])
			expectReadableIfSame(t, disk, original)
		}
		disk := copyDisk(original)
		disk.Files[0].Pages = slices.Delete(disk.Files[0].Pages, p, p+1)
		expectReadableIfSame(t, disk, original)
		disk = copyDisk(original)
		slices.Reverse(disk.Files[0].Pages[p].Rows)
		expectReadableIfSame(t, disk, original)
		disk = copyDisk(original)
		disk.Files[0].Pages[p].Rows = disk.Files[0].Pages[p].Rows[1:]
		expectReadableIfSame(t, disk, original)
	}
	// The same rows in other pages are another file.
	disk := copyDisk(original)
	var pages []impl.Page
	for _, row := range impl.UnpackPages(disk.Files[0].Pages) {
		pages = append(pages, impl.Page{Rows: []impl.Row{row}})
	}
	disk.Files[0].Pages = pages
	expectReadableIfSame(t, disk, original)
}

func TestEveryShortSequenceOfDiskOperations(t *testing.T) {
	expectAllSequences(t, impl.Disk{}, diskModel{}, 5)
}

func TestCountPagesOfAnyDisk(t *testing.T) {
	for _, counts := range placesUpTo(4, 5) {
		disk := impl.Disk{NextName: -5}
		want := 0
		for i, count := range counts {
			disk.Files = append(disk.Files, impl.File{Name: -i, Pages: make([]impl.Page, 20*count), Checksum: 7})
			want += 20 * count
		}
		if got := impl.CountPages(disk); got != want {
			t.Fatalf("CountPages of %v times 20 pages is %d", counts, got)
		}
	}
}

func TestEqualDisksOfEveryPair(t *testing.T) {
	disks := differentDisks()
	for i, a := range disks {
		for j, b := range disks {
			if got := impl.EqualDisks(a, copyDisk(b)); got != (i == j) {
				t.Errorf("EqualDisks(%v, %v) = %v", a, b, got)
			}
		}
	}
	for _, disk := range slices.Concat(validDisks(), invalidDisks()) {
		if !impl.EqualDisks(disk, copyDisk(disk)) || !impl.EqualDisks(disk, slackDisk(disk)) {
			t.Errorf("%v does not equal its copy", disk)
		}
		other := copyDisk(disk)
		other.NextName++
		if impl.EqualDisks(disk, other) || impl.EqualDisks(other, disk) {
			t.Errorf("%v equals the disk with another next name", disk)
		}
	}
}

func TestEqualDisksTakesNilForEmpty(t *testing.T) {
	row := []impl.Row{{Key: 1}}
	for _, pair := range [][2]impl.Disk{
		{{}, {Files: []impl.File{}}},
		{{Files: []impl.File{{}}}, {Files: []impl.File{{Pages: []impl.Page{}}}}},
		{{Files: []impl.File{{Pages: []impl.Page{{}, {Rows: row}}}}}, {Files: []impl.File{{Pages: []impl.Page{{Rows: row[:0]}, {Rows: row}}}}}},
	} {
		if !impl.EqualDisks(pair[0], pair[1]) || !impl.EqualDisks(pair[1], pair[0]) {
			t.Errorf("%v does not equal %v", pair[0], pair[1])
		}
	}
}

func TestDiskFunctionsLeaveTheirArguments(t *testing.T) {
	for _, given := range slices.Concat(validDisks(), invalidDisks()) {
		disk := slackDisk(given)
		page := impl.Page{Rows: slackRows(manyPages(1)[0].Rows)}
		before := dumpDisk(disk)
		pageBefore := slices.Clone(page.Rows[:cap(page.Rows)])
		names := []int{-1, 0, 1, 2, 3, 999, 1000}
		for range 2 {
			impl.IsValidDisk(disk)
			impl.CreateFile(disk)
			impl.DeleteUnreadableFiles(disk)
			impl.CountPages(disk)
			impl.EqualDisks(disk, disk)
			for _, name := range names {
				impl.AppendPage(disk, name, page)
				impl.SealFile(disk, name)
				impl.ReadFile(disk, name)
				impl.DeleteFile(disk, name)
			}
		}
		if !slices.Equal(dumpDisk(disk), before) || !slices.Equal(page.Rows[:cap(page.Rows)], pageBefore) {
			t.Fatalf("a disk with the next name %d, its page or their capacity is modified", disk.NextName)
		}
	}
}

func TestDiskFunctionsReturnNewMemory(t *testing.T) {
	page := impl.Page{Rows: slackRows(manyPages(1)[0].Rows)}
	for _, given := range slices.Concat(validDisks(), invalidDisks()) {
		for _, disk := range []impl.Disk{given, slackDisk(given), sharingDisk(given)} {
			var results []impl.Disk
			result, _, _ := impl.CreateFile(disk)
			results = append(results, result, impl.DeleteUnreadableFiles(disk))
			for _, name := range []int{-1, 0, 1, 2, 3, 999} {
				result, _ = impl.AppendPage(disk, name, page)
				results = append(results, result)
				result, _ = impl.AppendPage(disk, name, impl.Page{})
				results = append(results, result)
				result, _ = impl.SealFile(disk, name)
				results = append(results, result)
				result, _ = impl.DeleteFile(disk, name)
				results = append(results, result)
				rows, _ := impl.ReadFile(disk, name)
				expectNewMemory(t, diskOfRows(rows), disk, diskOfRows(page.Rows))
			}
			for _, result := range results {
				expectNewMemory(t, result, disk, diskOfRows(page.Rows))
			}
		}
	}
}

// diskModel is a disk whose files remember the pages with which they were
// sealed in place of a checksum.
type diskModel struct {
	files []modelFile
	next  int
}

type modelFile struct {
	name     int
	pages    []impl.Page
	sealed   bool
	sealedAs []impl.Page
}

func (file modelFile) isReadable() bool {
	return file.sealed && equalPages(file.pages, file.sealedAs)
}

func (model diskModel) clone() diskModel {
	model.files = slices.Clone(model.files)
	for i, file := range model.files {
		model.files[i].pages = clonePages(file.pages)
	}
	return model
}

func (model diskModel) disk() impl.Disk {
	disk := impl.Disk{NextName: model.next}
	for _, file := range model.files {
		checksum := 0
		if file.sealed {
			checksum = weighedChecksum(impl.FormatPages(file.sealedAs))
		}
		disk.Files = append(disk.Files, impl.File{Name: file.name, Pages: file.pages, Checksum: checksum, Sealed: file.sealed})
	}
	return disk
}

// find returns the index of the file with this name, or -1.
func (model diskModel) find(name int) int {
	return slices.IndexFunc(model.files, func(file modelFile) bool { return file.name == name })
}

// expectAllSequences performs every sequence of at most this many operations
// on the disk and on its model, and compares the two after each operation.
func expectAllSequences(t *testing.T, disk impl.Disk, model diskModel, length int) {
	t.Helper()
	expectModel(t, disk, model)
	if length == 0 {
		return
	}
	nextDisk, name, ok := impl.CreateFile(disk)
	nextModel := model.clone()
	nextModel.files = append(nextModel.files, modelFile{name: model.next})
	nextModel.next++
	if !ok || name != model.next {
		t.Fatalf("CreateFile(%v) returns the name %d, %v", disk, name, ok)
	}
	expectAllSequences(t, nextDisk, nextModel, length-1)

	nextModel = model.clone()
	nextModel.files = slices.DeleteFunc(nextModel.files, func(file modelFile) bool { return !file.isReadable() })
	expectAllSequences(t, impl.DeleteUnreadableFiles(disk), nextModel, length-1)

	for name := range 2 {
		expectSequencesOfFile(t, disk, model, name, length-1)
	}
}

// expectSequencesOfFile continues with every operation on one file.
func expectSequencesOfFile(t *testing.T, disk impl.Disk, model diskModel, name int, length int) {
	t.Helper()
	i := model.find(name)
	page := impl.Page{Rows: []impl.Row{{Key: 4 + name, Width: 2}, {Key: 1}}}

	nextDisk, ok := impl.AppendPage(disk, name, page)
	nextModel := model.clone()
	if i >= 0 && !model.files[i].sealed {
		nextModel.files[i].pages = append(nextModel.files[i].pages, clonePages([]impl.Page{page})...)
	}
	expectSuccess(t, "AppendPage", ok, i >= 0 && !model.files[i].sealed)
	expectAllSequences(t, nextDisk, nextModel, length)

	nextDisk, ok = impl.SealFile(disk, name)
	nextModel = model.clone()
	if i >= 0 && !model.files[i].sealed {
		nextModel.files[i].sealed = true
		nextModel.files[i].sealedAs = clonePages(model.files[i].pages)
	}
	expectSuccess(t, "SealFile", ok, i >= 0 && !model.files[i].sealed)
	expectAllSequences(t, nextDisk, nextModel, length)

	nextDisk, ok = impl.DeleteFile(disk, name)
	nextModel = model.clone()
	if i >= 0 {
		nextModel.files = slices.Delete(nextModel.files, i, i+1)
	}
	expectSuccess(t, "DeleteFile", ok, i >= 0)
	expectAllSequences(t, nextDisk, nextModel, length)

	// Damage that happens twice is undone.
	if i >= 0 && len(model.files[i].pages) > 0 {
		nextDisk, nextModel = copyDisk(disk), model.clone()
		nextDisk.Files[i].Pages[0].Rows[1].Value ^= 1
		nextModel.files[i].pages[0].Rows[1].Value ^= 1
		expectAllSequences(t, nextDisk, nextModel, length)
	}
}

func expectModel(t *testing.T, disk impl.Disk, model diskModel) {
	t.Helper()
	expectDisk(t, disk, model.disk())
	if !impl.IsValidDisk(disk) {
		t.Fatalf("%v is not valid", disk)
	}
	for name := -1; name < 4; name++ {
		if i := model.find(name); i >= 0 && model.files[i].isReadable() {
			expectRead(t, disk, name, slices.Concat(rowsOfPages(model.files[i].pages)...))
		} else {
			expectUnreadable(t, disk, name)
		}
	}
}

func expectSuccess(t *testing.T, what string, ok bool, want bool) {
	t.Helper()
	if ok != want {
		t.Fatalf("%s returns %v", what, ok)
	}
}

func expectChecksum(t *testing.T, s string, want int) {
	t.Helper()
	if got := impl.ChecksumOf(s); got != want {
		t.Fatalf("ChecksumOf(%.80q) = %d, want %d", s, got, want)
	}
}

// expectDisk compares all fields without EqualDisks, and then with it.
func expectDisk(t *testing.T, got impl.Disk, want impl.Disk) {
	t.Helper()
	if !slices.Equal(dumpDisk(copyDisk(got)), dumpDisk(copyDisk(want))) {
		t.Fatalf("the disk is %v, want %v", got, want)
	}
	count := 0
	for _, file := range want.Files {
		count += len(file.Pages)
	}
	if !impl.EqualDisks(got, want) || impl.CountPages(got) != count {
		t.Fatalf("%v does not equal %v or does not have %d pages", got, want, count)
	}
}

func expectUnchanged(t *testing.T, what string, disk impl.Disk, got impl.Disk, ok bool) {
	t.Helper()
	if ok {
		t.Fatalf("%s succeeds: %v", what, got)
	}
	expectDisk(t, got, disk)
	expectNewMemory(t, got, disk)
}

// expectRefused checks that every function of a file refuses this name.
func expectRefused(t *testing.T, disk impl.Disk, name int, page impl.Page) {
	t.Helper()
	got, ok := impl.AppendPage(disk, name, page)
	expectUnchanged(t, "AppendPage", disk, got, ok)
	got, ok = impl.SealFile(disk, name)
	expectUnchanged(t, "SealFile", disk, got, ok)
	got, ok = impl.DeleteFile(disk, name)
	expectUnchanged(t, "DeleteFile", disk, got, ok)
	expectUnreadable(t, disk, name)
}

func expectRead(t *testing.T, disk impl.Disk, name int, want []impl.Row) {
	t.Helper()
	if rows, ok := impl.ReadFile(disk, name); !ok || !slices.Equal(rows, want) {
		t.Fatalf("ReadFile(%v, %d) = %v, %v, want %v", disk, name, rows, ok, want)
	}
}

func expectUnreadable(t *testing.T, disk impl.Disk, name int) {
	t.Helper()
	if rows, ok := impl.ReadFile(disk, name); ok || len(rows) > 0 {
		t.Fatalf("ReadFile(%v, %d) = %v, %v", disk, name, rows, ok)
	}
}

// expectReadableIfSame checks that file 0, whose rows are valid but may be
// changed, can be read exactly if its pages are those of the original, and
// that file 1 can be read if the pages of file 0 are not too full or empty.
func expectReadableIfSame(t *testing.T, disk impl.Disk, original impl.Disk) {
	t.Helper()
	for _, page := range disk.Files[0].Pages {
		if cost := costOf(page.Rows); cost < 1 || cost > 8 {
			expectUnreadable(t, disk, 0)
			expectUnreadable(t, disk, 1)
			return
		}
	}
	if equalPages(disk.Files[0].Pages, original.Files[0].Pages) {
		expectRead(t, disk, 0, slices.Concat(rowsOfPages(original.Files[0].Pages)...))
	} else {
		expectUnreadable(t, disk, 0)
	}
	expectRead(t, disk, 1, slices.Concat(rowsOfPages(original.Files[1].Pages)...))
}

// expectNewMemory looks whether two slices of the result, or one of them and
// one of an argument, have an element in common, used or unused.
func expectNewMemory(t *testing.T, result impl.Disk, arguments ...impl.Disk) {
	t.Helper()
	var elements []any
	for _, argument := range arguments {
		elements = append(elements, elementsOf(argument)...)
	}
	expectApart(t, elementsOf(result), elements)
}

// expectApart looks whether an element occurs twice in the result, or in the
// result and in an argument. The elements are compared as pointers.
func expectApart(t *testing.T, result []any, arguments []any) {
	t.Helper()
	taken := map[any]bool{}
	for _, element := range arguments {
		taken[element] = true
	}
	for _, element := range result {
		if taken[element] {
			t.Fatalf("a slice of a result shares the memory of %v", element)
		}
		taken[element] = true
	}
}

// elementsOf returns pointers to all elements of all slices of the disk,
// used and unused. The slices in unused elements do not count.
func elementsOf(disk impl.Disk) []any {
	elements := pointersTo(disk.Files)
	for _, file := range disk.Files {
		elements = append(elements, pointersTo(file.Pages)...)
		for _, page := range file.Pages {
			elements = append(elements, pointersTo(page.Rows)...)
		}
	}
	return elements
}

// pointersTo returns pointers to all elements, used and unused.
func pointersTo[T any](elements []T) []any {
	var pointers []any
	for i := range elements[:cap(elements)] {
		pointers = append(pointers, &elements[:cap(elements)][i])
	}
	return pointers
}

// dumpDisk returns all numbers of the disk, with those in unused capacity.
func dumpDisk(disk impl.Disk) []int {
	numbers := []int{disk.NextName, len(disk.Files)}
	for _, file := range disk.Files[:cap(disk.Files)] {
		isSealed := 0
		if file.Sealed {
			isSealed = 1
		}
		numbers = append(numbers, file.Name, file.Checksum, isSealed, len(file.Pages))
		for _, page := range file.Pages[:cap(file.Pages)] {
			numbers = append(numbers, len(page.Rows))
			for _, row := range page.Rows[:cap(page.Rows)] {
				numbers = append(numbers, row.Key, row.Value, row.Width)
			}
		}
	}
	return numbers
}

// copyDisk returns the disk in new memory without unused capacity.
func copyDisk(disk impl.Disk) impl.Disk {
	files := make([]impl.File, len(disk.Files))
	for i, file := range disk.Files {
		files[i] = file
		files[i].Pages = make([]impl.Page, len(file.Pages))
		for j, page := range file.Pages {
			files[i].Pages[j].Rows = make([]impl.Row, len(page.Rows))
			copy(files[i].Pages[j].Rows, page.Rows)
		}
	}
	return impl.Disk{NextName: disk.NextName, Files: files}
}

// slackDisk returns the disk in new memory with two unused elements behind
// every slice, which a function could write to.
func slackDisk(disk impl.Disk) impl.Disk {
	unused := impl.File{Name: 77, Pages: []impl.Page{{Rows: []impl.Row{{Key: 77}}}}, Checksum: 77}
	slack := copyDisk(disk)
	for i, file := range slack.Files {
		for j, page := range file.Pages {
			slack.Files[i].Pages[j].Rows = slackRows(page.Rows)
		}
		slack.Files[i].Pages = withUnused(slack.Files[i].Pages, unused.Pages[0])
	}
	slack.Files = withUnused(slack.Files, unused)
	return slack
}

func slackRows(rows []impl.Row) []impl.Row {
	return withUnused(rows, impl.Row{Key: 77, Value: 77, Width: 77})
}

// withUnused returns the elements in new memory with two unused ones behind
// them.
func withUnused[T any](elements []T, unused T) []T {
	return append(slices.Clone(elements), unused, unused)[:len(elements)]
}

// sharingDisk returns the disk with all pages, and with all rows of all
// pages, in one slice each, so that every slice goes on into the next one.
func sharingDisk(disk impl.Disk) impl.Disk {
	sharing := copyDisk(disk)
	var pages []impl.Page
	var rows []impl.Row
	for _, file := range sharing.Files {
		pages = append(pages, file.Pages...)
	}
	for _, page := range pages {
		rows = append(rows, page.Rows...)
	}
	for i, page := range pages {
		pages[i].Rows, rows = rows[:len(page.Rows)], rows[len(page.Rows):]
	}
	for i, file := range sharing.Files {
		sharing.Files[i].Pages, pages = pages[:len(file.Pages)], pages[len(file.Pages):]
	}
	return sharing
}

// diskOfRows wraps rows so that their memory can be compared.
func diskOfRows(rows []impl.Row) impl.Disk {
	return impl.Disk{Files: []impl.File{{Pages: []impl.Page{{Rows: rows}}}}}
}

func created(t *testing.T, disk impl.Disk, want int) impl.Disk {
	t.Helper()
	result, name, ok := impl.CreateFile(disk)
	if !ok || name != want {
		t.Fatalf("CreateFile(%v) returns the name %d, %v, want %d", disk, name, ok, want)
	}
	return result
}

func appended(t *testing.T, disk impl.Disk, name int, page impl.Page) impl.Disk {
	t.Helper()
	result, ok := impl.AppendPage(disk, name, page)
	if !ok {
		t.Fatalf("AppendPage(%v, %d, %v) returns false", disk, name, page)
	}
	return result
}

func sealed(t *testing.T, disk impl.Disk, name int) impl.Disk {
	t.Helper()
	result, ok := impl.SealFile(disk, name)
	if !ok {
		t.Fatalf("SealFile(%v, %d) returns false", disk, name)
	}
	return result
}

func deleted(t *testing.T, disk impl.Disk, name int) impl.Disk {
	t.Helper()
	result, ok := impl.DeleteFile(disk, name)
	if !ok {
		t.Fatalf("DeleteFile(%v, %d) returns false", disk, name)
	}
	return result
}

// diskOf returns a disk with one unsealed file for each list of pages.
func diskOf(t *testing.T, files ...[]impl.Page) impl.Disk {
	t.Helper()
	disk := impl.Disk{}
	for name, pages := range files {
		disk = created(t, disk, name)
		for _, page := range pages {
			disk = appended(t, disk, name, page)
		}
	}
	return disk
}

// sealByHand returns the file as sealed, without a call of SealFile.
func sealByHand(file impl.File) impl.File {
	file.Checksum = weighedChecksum(impl.FormatPages(file.Pages))
	file.Sealed = true
	return file
}

// manyPages returns this many different valid pages. The first one has two
// rows, and some are full.
func manyPages(count int) []impl.Page {
	pages := make([]impl.Page, count)
	for i := range pages {
		pages[i].Rows = []impl.Row{{Key: i % 10, Value: 2 * i, Width: 3}, {Key: 3, Value: 50, Width: i % 4}}
	}
	return pages
}

func rowsOfManyPages(count int) []impl.Row {
	return slices.Concat(rowsOfPages(manyPages(count))...)
}

// pageOfChecksumZero returns a page for which the checksum is that of an
// unsealed file.
func pageOfChecksumZero(t *testing.T) impl.Page {
	t.Helper()
	rows := allRows()
	for _, a := range rows {
		for _, b := range rows {
			page := impl.Page{Rows: []impl.Row{a, b}}
			if weighedChecksum(impl.FormatPages([]impl.Page{page})) == 0 {
				return page
			}
		}
	}
	t.Fatal("no page of two rows has the checksum 0")
	return impl.Page{}
}

// invalidPages returns pages with one flaw each.
func invalidPages() []impl.Page {
	pages := []impl.Page{{}, {Rows: []impl.Row{}}, {Rows: make([]impl.Row, 9)}, {Rows: make([]impl.Row, 25)}}
	pages = append(pages, impl.Page{Rows: repeatRow(impl.Row{Width: 2}, 3)}, impl.Page{Rows: invalidRows()})
	for _, row := range invalidRows() {
		pages = append(pages, impl.Page{Rows: []impl.Row{row}}, impl.Page{Rows: []impl.Row{{Key: 1}, row}})
	}
	return pages
}

// countDifferences returns in how many numbers two rows differ.
func countDifferences(a impl.Row, b impl.Row) int {
	count := 0
	for _, differs := range []bool{a.Key != b.Key, a.Value != b.Value, a.Width != b.Width} {
		if differs {
			count++
		}
	}
	return count
}

func namesOutOfRange() []int {
	return []int{-1, -2, 1001, 1 << 32, math.MaxInt, math.MinInt, math.MinInt + 1}
}

// validDisks returns disks that are built by hand, with every number that may
// be at a limit at one of its limits.
func validDisks() []impl.Disk {
	disks := []impl.Disk{
		{},
		{NextName: 1},
		{NextName: 1000},
		{NextName: 1, Files: []impl.File{{}}},
		{NextName: 1000, Files: []impl.File{{Name: 0}, {Name: 999}}},
		{NextName: 9, Files: []impl.File{{Name: 3}, {Name: 5, Pages: manyPages(2)}, {Name: 6, Pages: manyPages(38)}}},
		{NextName: 4, Files: []impl.File{sealByHand(impl.File{Pages: manyPages(3)}), {Name: 1, Pages: manyPages(1)}, sealByHand(impl.File{Name: 3})}},
		{NextName: 1, Files: []impl.File{{Pages: manyPages(40)}}},
	}
	// A sealed file may have any checksum.
	for _, checksum := range []int{0, 1, 11, -1, 65520, 65521, math.MaxInt, math.MinInt} {
		disks = append(disks, impl.Disk{NextName: 2, Files: []impl.File{{Name: 1, Checksum: checksum, Sealed: true}}})
		disks = append(disks, impl.Disk{NextName: 2, Files: []impl.File{{Name: 1, Pages: manyPages(2), Checksum: checksum, Sealed: true}}})
	}
	return disks
}

// invalidDisks returns disks with one flaw each, some beside a file that is
// sealed and intact.
func invalidDisks() []impl.Disk {
	intact := sealByHand(impl.File{Name: 0, Pages: manyPages(2)})
	last := sealByHand(impl.File{Name: 4, Pages: manyPages(1)})
	var disks []impl.Disk
	for _, next := range []int{-1, -1000, 1001, 1002, math.MaxInt, math.MinInt} {
		disks = append(disks, impl.Disk{NextName: next})
		disks = append(disks, impl.Disk{NextName: next, Files: []impl.File{intact, last}})
	}
	for _, next := range []int{0, 1, 3, 4} {
		disks = append(disks, impl.Disk{NextName: next, Files: []impl.File{intact, last}})
	}
	for _, names := range [][]int{{-1}, {5}, {6}, {1000}, {math.MinInt}, {math.MaxInt}, {0, 0}, {4, 4}, {1, 0}, {0, 2, 1}, {0, 1, 1}, {3, 3, 4}, {0, 4, 3}, {-1, 0}, {4, 5}, {0, math.MaxInt, math.MinInt}} {
		disk := impl.Disk{NextName: 5}
		for _, name := range names {
			disk.Files = append(disk.Files, sealByHand(impl.File{Name: name, Pages: manyPages(1)}))
		}
		disks = append(disks, disk)
	}
	flaws := []impl.File{{Pages: manyPages(38)}, sealByHand(impl.File{Pages: manyPages(38)}), {Pages: manyPages(100)}}
	for _, checksum := range []int{1, -1, 11, 65521, math.MaxInt, math.MinInt} {
		flaws = append(flaws, impl.File{Checksum: checksum}, impl.File{Pages: manyPages(1), Checksum: checksum})
	}
	flaws = append(flaws, impl.File{Pages: manyPages(1), Checksum: weighedChecksum(impl.FormatPages(manyPages(1)))})
	for _, page := range invalidPages()[:30] {
		for place := range 3 {
			pages := manyPages(3)
			pages[place] = page
			flaws = append(flaws, impl.File{Pages: pages}, sealByHand(impl.File{Pages: pages}))
		}
	}
	for _, flaw := range flaws {
		flaw.Name = 2
		disks = append(disks, impl.Disk{NextName: 5, Files: []impl.File{intact, flaw, last}})
	}
	return append(disks, impl.Disk{NextName: 1, Files: []impl.File{{Pages: manyPages(41)}}})
}

// differentDisks returns disks of which no two are equal. Neighbours differ
// in one number, one slice or one boolean where they can.
func differentDisks() []impl.Disk {
	row := impl.Row{Key: 1, Value: 2, Width: 3}
	disks := []impl.Disk{{}, {NextName: 1}, {NextName: -1}, {NextName: math.MaxInt}}
	for _, files := range [][]impl.File{
		{{}},
		{{}, {}},
		{{Name: 1}},
		{{Checksum: 1}},
		{{Sealed: true}},
		{{Name: 1}, {}},
		{{}, {Name: 1}},
		{{}, {Checksum: 1}},
		{{}, {Sealed: true}},
		{{Pages: []impl.Page{{}}}},
		{{Pages: []impl.Page{{}, {}}}},
		{{Pages: []impl.Page{{}}}, {}},
		{{}, {Pages: []impl.Page{{}}}},
		{{Pages: []impl.Page{{Rows: []impl.Row{row}}}}},
		{{Pages: []impl.Page{{Rows: []impl.Row{row}}}, Sealed: true}},
		{{Pages: []impl.Page{{Rows: []impl.Row{row, row}}}}},
		{{Pages: []impl.Page{{Rows: []impl.Row{row}}, {Rows: []impl.Row{row}}}}},
		{{Pages: []impl.Page{{Rows: []impl.Row{row}}, {}}}},
		{{Pages: []impl.Page{{}, {Rows: []impl.Row{row}}}}},
		{{Pages: []impl.Page{{Rows: []impl.Row{{Key: 0, Value: 2, Width: 3}}}}}},
		{{Pages: []impl.Page{{Rows: []impl.Row{{Key: 1, Value: 0, Width: 3}}}}}},
		{{Pages: []impl.Page{{Rows: []impl.Row{{Key: 1, Value: 2, Width: 0}}}}}},
		{{Pages: []impl.Page{{Rows: []impl.Row{row, {Key: 1, Value: 2, Width: math.MinInt}}}}}},
		{{Pages: []impl.Page{{Rows: []impl.Row{row, {Key: 1, Value: -2, Width: 3}}}}}},
	} {
		disks = append(disks, impl.Disk{Files: files})
	}
	return disks
}

// weighedChecksum adds up what each byte contributes, from the last one to
// the first one, each with 37 times the weight of the one after it.
func weighedChecksum(s string) int {
	sum, weight := 0, 1
	for i := len(s) - 1; i >= 0; i-- {
		sum = (sum + weight*(int(s[i])+1)) % 65521
		weight = weight * 37 % 65521
	}
	return (sum + 11*weight) % 65521
}
