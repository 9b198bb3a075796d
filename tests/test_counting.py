"""Points 20 to 22, and of point 3 what they bear: islands, and nets counted and numbered."""

import itertools
import unittest

from arrowfind.counting import how_many, islands_of, net_at, number_in
from arrowfind.errors import NoSuch, Unlike
from arrowfind.nets import net_made
from arrowfind.pictures import picture_of
from arrowfind.turning import net_turned, turnable_in
from tests.helper import (
    NAMES, Case, all_tied, by_numbers, by_places, comes_round, nets_alike, shaped_net, shaped_nets,
    slow_corners, slow_islands, slow_nets_like, slow_picture, slow_source, slow_ties, some_nets,
    steps_of, thrown_nets,
)


def all_turnings(net):
    """Every way to turn the ties that leaves no ring and the corners as they are."""
    ties = slow_ties(net)
    for ways in itertools.product((1, -1), repeat=len(ties)):
        arrows = by_places(net[0], [tie[::way] for tie, way in zip(ties, ways)])
        if slow_corners((net[0], arrows)) == slow_corners(net) and not comes_round(net[0], arrows):
            yield (net[0], arrows)


def free_net(names, ties):
    """Of ties that make no corner when each goes from the first told to the second."""
    return net_made(list(names), [tuple(tie) for tie in ties.split()])


class IslandsTest(Case):
    def test_what_the_ties_join(self):
        for net in itertools.chain(some_nets(), shaped_nets()):
            names, arrows, ties = picture_of(net)
            self.assertEqual(islands_of((names, arrows, ties)), slow_islands(names, ties))

    def test_in_order_and_sorted_by_their_first_names(self):
        picture = picture_of(net_made(["d", "b", "f", "a", "c", "e"], [("c", "b"), ("e", "d"), ("c", "f")]))
        self.assertEqual(islands_of(picture), [["d", "e"], ["b", "f", "c"]])

    def test_lists_of_names(self):
        told = islands_of(picture_of(shaped_net("three islands")))
        self.assertEqual([type(each) for each in (told, *told)], [list] * 4)

    def test_a_name_without_ties_is_in_none(self):
        picture = picture_of(net_made(["a", "b", "c"], [("c", "b")]))
        self.assertEqual(islands_of(picture), [["b", "c"]])

    def test_arrows_of_the_picture_join_nothing(self):
        picture = picture_of(shaped_net("islands with arrows between them"))
        self.assertEqual(islands_of(picture), [["wet", "sun"], ["rain", "a"], ["zzzzzzzz", "mud"]])

    def test_a_picture_without_ties_has_none(self):
        corner = net_made(["a", "b", "c"], [("a", "b"), ("c", "b")])
        for net in (net_made(["a"], []), net_made(["a", "b"], []), corner, shaped_net("arrows alone")):
            self.assertEqual(picture_of(net)[2], ())
            self.assertEqual(islands_of(picture_of(net)), [])

    def test_just_one_source_in_each_net(self):
        for net in shaped_nets():
            picture = picture_of(net)
            for number in range(how_many(picture)):
                for island in islands_of(picture):
                    self.assertIn(slow_source(net_at(picture, number), island), island)

    def test_told_lists_emptied(self):
        net = shaped_net("a triangle beside a triangle")
        picture = picture_of(net)
        told = islands_of(picture)
        kept = [list(island) for island in told]
        nets = [net_at(picture, number) for number in range(36)]
        for island in told:
            island.clear()
        told.clear()
        self.assertEqual(islands_of(picture), kept)
        self.assertEqual(how_many(picture), 36)
        self.assertEqual([net_at(picture, number) for number in range(36)], nets)
        self.assertEqual([number_in(picture, each) for each in nets], list(range(36)))


class OrderTest(Case):
    def is_order(self, nets):
        picture = slow_picture(nets)
        rows = by_numbers(nets)
        self.assertEqual([net_at(picture, number) for number in range(len(rows))], rows)
        self.assertEqual([number_in(picture, net) for net in rows], list(range(len(rows))))

    def test_of_all_small_pictures(self):
        for size in (1, 2, 3, 4):
            for nets in nets_alike(size):
                self.is_order(nets)

    def test_of_shapes(self):
        for net in shaped_nets():
            self.is_order(slow_nets_like(net))

    def test_of_larger_pictures(self):
        longest = 0
        for net in thrown_nets(sizes=(5, 6), each=25):
            nets = slow_nets_like(net)
            if len(nets) <= 80:
                self.is_order(nets)
                longest = max(longest, len(nets))
        self.assertGreater(longest, 15)

    def test_by_the_source_then_by_the_island_within(self):
        picture = picture_of(free_net("cab", "ab ac bc"))
        turns = ["cab", "cba", "acb", "abc", "bca", "bac"]
        for number, (first, second, third) in enumerate(turns):
            net = net_made(["c", "a", "b"], [(first, second), (first, third), (second, third)])
            self.assertEqual(net_at(picture, number), net)
            self.assertEqual(number_in(picture, net), number)

    def test_the_first_island_weighs_most(self):
        picture = picture_of(free_net("badc", "ac bd"))
        self.assertEqual(islands_of(picture), [["b", "d"], ["a", "c"]])
        rows = [("bd", "ac"), ("bd", "ca"), ("db", "ac"), ("db", "ca")]
        for number, arrows in enumerate(rows):
            self.assertEqual(net_at(picture, number), free_net("badc", " ".join(arrows)))

    def test_several_islands_within_one(self):
        picture = picture_of(free_net("abmcd", "ma mb ab mc md cd"))
        rows = [net_at(picture, number) for number in range(how_many(picture))]
        sources = [slow_source(net, list("abmcd")) for net in rows]
        self.assertEqual("".join(sources), "aaaabbbbmmmmccccdddd")
        middle = [("ab" in map("".join, net[1]), "cd" in map("".join, net[1])) for net in rows[8:12]]
        self.assertEqual(middle, [(True, True), (True, False), (False, True), (False, False)])


class CountTest(Case):
    def test_all_ways_to_turn_the_ties_of_small_nets(self):
        for size in (1, 2, 3, 4):
            for nets in nets_alike(size):
                told = set(all_turnings(nets[0]))
                self.assertEqual(told, set(nets))
                self.assertEqual(how_many(slow_picture(nets)), len(told))

    def test_all_ways_to_turn_the_ties_of_five_names(self):
        for net in itertools.chain([shaped_net("a row"), shaped_net("a star")], thrown_nets(sizes=(5,), each=8)):
            self.assertEqual(how_many(picture_of(net)), len(list(all_turnings(net))))

    def test_all_nets_of_larger_pictures(self):
        for net in itertools.chain(shaped_nets(), thrown_nets(sizes=(6,), each=20), thrown_nets(sizes=(7,), each=3)):
            self.assertEqual(how_many(picture_of(net)), len(slow_nets_like(net)))

    def test_all_nets_that_turning_leads_to(self):
        for net in thrown_nets(sizes=(7, 8), each=8):
            found, waiting = {net}, [net]
            while waiting:
                here = waiting.pop()
                for tail, head in turnable_in(here):
                    turned = net_turned(here, tail, head)
                    if turned not in found:
                        found.add(turned)
                        waiting.append(turned)
            picture = picture_of(net)
            self.assertEqual(how_many(picture), len(found))
            self.assertEqual({net_at(picture, number) for number in range(len(found))}, found)

    def test_a_few_by_hand(self):
        self.assertEqual(how_many(picture_of(net_made(["a"], []))), 1)
        self.assertEqual(how_many(picture_of(net_made(["a", "b", "c"], [("a", "b"), ("c", "b")]))), 1)
        self.assertEqual(how_many(picture_of(free_net("ab", "ab"))), 2)
        self.assertEqual(how_many(picture_of(free_net("abcdefgh", "ab cd ef gh"))), 16)
        self.assertEqual(how_many(picture_of(free_net("abcdefgh", "ab bc cd de ef fg gh"))), 8)
        self.assertEqual(how_many(picture_of(free_net("abcdefgh", "ab ac bc de df ef gh"))), 72)
        for size, many in enumerate((1, 2, 6, 24, 120, 720, 5040, 40320), start=1):
            self.assertEqual(how_many(picture_of(all_tied(NAMES[:size]))), many)


class NumberTest(Case):
    def test_there_and_back_for_every_number(self):
        for net in itertools.chain(some_nets(), shaped_nets(), [all_tied(NAMES[:6])]):
            picture = picture_of(net)
            told = [net_at(picture, number) for number in range(how_many(picture))]
            self.assertEqual(len(set(told)), len(told))
            self.assertEqual(told[number_in(picture, net)], net)
            for number, each in enumerate(told):
                self.assertEqual(number_in(picture, each), number)
                self.assertIs(type(number_in(picture, each)), int)

    def test_nets_as_net_made_tells_them_with_the_ties_and_corners(self):
        for net in itertools.chain(shaped_nets(), thrown_nets()):
            picture = picture_of(net)
            for number in range(min(how_many(picture), 60)):
                told = net_at(picture, number)
                self.assertEqual(told, net_made(list(net[0]), list(told[1])))
                self.assertEqual([type(part) for part in (told, *told)], [tuple] * 3)
                self.assertEqual(slow_ties(told), slow_ties(net))
                self.assertEqual(slow_corners(told), slow_corners(net))

    def test_no_such_number(self):
        for net in itertools.chain(some_nets(), shaped_nets(), [all_tied(NAMES)]):
            picture = picture_of(net)
            many = how_many(picture)
            for number in (-1, -2, -many, -many - 1, many, many + 1, 2 * many, 10**299, -10**299):
                self.refused(NoSuch, net_at, picture, number)

    def test_what_is_handed_in_stays(self):
        net = net_made(["b", "a", "c"], [("a", "b"), ("b", "c")])
        picture = picture_of(net)
        self.assertEqual(number_in(picture, net_at(picture, 2)), 2)
        self.refused(NoSuch, net_at, picture, 3)
        self.assertEqual(picture, (("b", "a", "c"), (), (("b", "a"), ("b", "c"))))
        self.assertEqual(net, (("b", "a", "c"), (("b", "c"), ("a", "b"))))


class UnlikeTest(Case):
    def setUp(self):
        self.net = net_made(["a", "b", "c", "d", "e"], [("a", "c"), ("b", "c"), ("c", "d"), ("a", "e")])
        self.picture = picture_of(self.net)

    def test_two_nets_of_the_picture(self):
        self.assertEqual(number_in(self.picture, self.net), 0)
        self.assertEqual(number_in(self.picture, net_turned(self.net, "a", "e")), 1)

    def test_other_names(self):
        for names in (["a", "b", "c", "d", "x"], ["a", "b", "c", "d"], ["a", "b", "c", "d", "e", "f"]):
            arrows = [arrow for arrow in self.net[1] if set(arrow) <= set(names)]
            self.refused(Unlike, number_in, self.picture, net_made(names, arrows))
        other = net_made(["f", "g", "h", "i", "j"], [("f", "h"), ("g", "h"), ("h", "i"), ("f", "j")])
        self.refused(Unlike, number_in, self.picture, other)

    def test_names_in_another_order(self):
        for names in itertools.permutations(self.net[0]):
            if names != self.net[0]:
                self.refused(Unlike, number_in, self.picture, net_made(list(names), list(self.net[1])))
        self.refused(Unlike, number_in, picture_of(net_made(["a", "b"], [])), net_made(["b", "a"], []))

    def test_an_arrow_less_or_more(self):
        for arrow in self.net[1]:
            less = (self.net[0], tuple(each for each in self.net[1] if each != arrow))
            self.refused(Unlike, number_in, self.picture, less)
            self.refused(Unlike, number_in, picture_of(less), self.net)

    def test_the_same_ties_and_unlike_corners(self):
        for arrows in (
            [("c", "a"), ("c", "b"), ("c", "d"), ("a", "e")],
            [("a", "c"), ("b", "c"), ("d", "c"), ("a", "e")],
            [("a", "c"), ("b", "c"), ("c", "d"), ("a", "e"), ("b", "e")],
        ):
            self.refused(Unlike, number_in, self.picture, net_made(list(self.net[0]), arrows))
        row = picture_of(free_net("abc", "ab bc"))
        self.refused(Unlike, number_in, row, free_net("abc", "ab cb"))
        self.refused(Unlike, number_in, picture_of(free_net("abc", "ab cb")), free_net("abc", "ab bc"))

    def test_an_arrow_of_the_picture_turned(self):
        turned = 0
        for net in itertools.chain([self.net], shaped_nets(), thrown_nets(sizes=(5, 6), each=12)):
            picture = picture_of(net)
            for arrow in picture[1]:
                arrows = by_places(net[0], [each for each in net[1] if each != arrow] + [arrow[::-1]])
                if not comes_round(net[0], arrows):
                    turned += 1
                    self.refused(Unlike, number_in, picture, (net[0], arrows))
        self.assertGreater(turned, 50)

    def test_every_other_small_net(self):
        for size in (2, 3):
            groups = nets_alike(size)
            for nets, others in itertools.permutations(groups, 2):
                for net in others:
                    self.refused(Unlike, number_in, slow_picture(nets), net)


class MomentTest(Case):
    def is_numbered_in_a_moment(self, net, many):
        picture = picture_of(net)
        self.assertEqual(how_many(picture), many)
        self.assertLess(steps_of(how_many, picture), 300000)
        for number in (0, 1, many // 2, many - 2, many - 1):
            told = net_at(picture, number)
            self.assertEqual(number_in(picture, told), number)
            self.assertEqual(len(told[1]), len(net[1]))
        self.assertLess(steps_of(net_at, picture, many - 1), 300000)
        self.assertLess(steps_of(number_in, picture, told), 300000)
        self.refused(NoSuch, net_at, picture, many)
        self.refused(NoSuch, net_at, picture, -1)

    def test_seven_and_eight_names_all_tied(self):
        self.is_numbered_in_a_moment(all_tied(NAMES[:7]), 5040)
        self.is_numbered_in_a_moment(all_tied(NAMES), 40320)

    def test_seven_and_eight_names_all_but_two_tied(self):
        # Each of the two as the source leaves the others all tied; each of the others, one name
        # less with two that aren't tied: 3 for three names, so 2 * 2 + 2 * 3 = 10 for four.
        for size, many in ((4, 10), (5, 42), (6, 216), (7, 1320), (8, 9360)):
            net = all_tied(NAMES[:size])
            self.is_numbered_in_a_moment((net[0], net[1][:-1]), many)

    def test_the_first_and_the_last_of_eight_names_all_tied(self):
        picture = picture_of(all_tied(NAMES))
        self.assertEqual(net_at(picture, 0), all_tied(NAMES))
        backwards = [(tail, head) for head, tail in itertools.combinations(NAMES, 2)]
        self.assertEqual(net_at(picture, 40319), net_made(NAMES, backwards))


if __name__ == "__main__":
    unittest.main()
