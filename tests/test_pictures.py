"""Points 18 and 19, and of point 3 what they bear: pictures, their nets and their reasons."""

import itertools
import unittest

from arrowfind.errors import NoName, NoTie
from arrowfind.nets import net_made
from arrowfind.pictures import net_with, net_within, picture_of, reasons_of
from tests.helper import (
    NAMES, Case, Dice, all_tied, by_places, by_turns, comes_round, nets_alike, rows_that_fail,
    shaped_net, shaped_nets, slow_corners, slow_nets_like, slow_partings, slow_picture, slow_ties,
    some_nets, steps_of, thrown_nets, turned_about,
)


def larger_nets():
    return itertools.chain(shaped_nets(), thrown_nets(sizes=(5, 6, 7, 8), each=12))


class PictureTest(Case):
    def test_of_all_small_nets_that_say_the_same(self):
        for size in (1, 2, 3, 4):
            for nets in nets_alike(size):
                picture = slow_picture(nets)
                for net in nets:
                    self.assertEqual(picture_of(net), picture)

    def test_of_larger_nets(self):
        for net in itertools.chain(shaped_nets(), thrown_nets(sizes=(5, 6), each=20)):
            self.assertEqual(picture_of(net), slow_picture(slow_nets_like(net)))

    def test_of_seven_names(self):
        for net in thrown_nets(sizes=(7,), each=3):
            self.assertEqual(picture_of(net), slow_picture(slow_nets_like(net)))

    def test_tuples_with_sorted_pairs(self):
        for net in itertools.chain(some_nets(), larger_nets()):
            picture = picture_of(net)
            self.assertEqual([type(part) for part in (picture, *picture)], [tuple] * 4)
            names, arrows, ties = picture
            self.assertEqual(names, net[0])
            self.assertEqual(arrows, by_places(names, arrows))
            self.assertEqual(ties, by_places(names, ties))
            self.assertTrue(all(type(pair) is tuple for pair in arrows + ties))
            self.assertTrue(all(names.index(one) < names.index(other) for one, other in ties))

    def test_each_tie_of_the_net_is_just_one_of_both(self):
        for net in itertools.chain(some_nets(), larger_nets()):
            names, arrows, ties = picture_of(net)
            self.assertLessEqual(set(arrows), set(net[1]))
            both = [tuple(sorted(arrow, key=names.index)) for arrow in arrows] + list(ties)
            self.assertEqual(by_places(names, both), tuple(slow_ties(net)))

    def test_equal_just_where_the_small_nets_say_the_same(self):
        for size in (1, 2, 3, 4):
            pictures = [{picture_of(net) for net in nets} for nets in nets_alike(size)]
            self.assertEqual([len(each) for each in pictures], [1] * len(pictures))
            self.assertEqual(len(set().union(*pictures)), len(pictures))

    def test_equal_for_larger_nets_that_say_the_same(self):
        for place, net in enumerate(larger_nets()):
            dice = Dice(place)
            for times in (1, 5, 30):
                self.assertEqual(picture_of(turned_about(net, dice, times)), picture_of(net))

    def test_unlike_for_larger_nets_with_the_same_ties_that_do_not_say_the_same(self):
        unlike = 0
        for place, net in enumerate(larger_nets()):
            dice = Dice(place)
            for _ in range(4):
                other = by_turns(net, dice.shuffled(net[0]))
                same = slow_corners(net) == slow_corners(other)
                unlike += not same
                self.assertIs(picture_of(net) == picture_of(other), same)
        self.assertGreater(unlike, 50)

    def test_unlike_for_one_tie_less(self):
        for net in larger_nets():
            for arrow in net[1]:
                less = (net[0], tuple(each for each in net[1] if each != arrow))
                self.assertNotEqual(picture_of(less), picture_of(net))

    def test_equal_just_where_five_names_are_parted_by_the_same(self):
        nets = list(thrown_nets(sizes=(5,), each=8)) + [shaped_net("a row"), shaped_net("a star")]
        for place, net in enumerate(nets):
            for other in [by_turns(net, Dice(place * 9 + k).shuffled(net[0])) for k in range(3)]:
                same = slow_partings(net) == slow_partings(other)
                self.assertIs(picture_of(net) == picture_of(other), same)

    def test_a_few_by_hand(self):
        self.assertEqual(picture_of(net_made(["a"], [])), (("a",), (), ()))
        self.assertEqual(picture_of(net_made(["b", "a"], [("a", "b")])), (("b", "a"), (), (("b", "a"),)))
        corner = net_made(["a", "b", "c", "d"], [("a", "c"), ("b", "c"), ("c", "d")])
        self.assertEqual(picture_of(corner), (corner[0], (("a", "c"), ("b", "c"), ("c", "d")), ()))
        row = net_made(["c", "a", "b"], [("a", "b"), ("b", "c")])
        self.assertEqual(picture_of(row), (row[0], (), (("c", "b"), ("a", "b"))))

    def test_the_net_handed_in_stays(self):
        net = net_made(["b", "a", "c"], [("a", "b"), ("c", "b")])
        picture_of(net)
        reasons_of(net)
        self.assertEqual(net, (("b", "a", "c"), (("a", "b"), ("c", "b"))))


class NetsOfPicturesTest(Case):
    def is_net_like(self, told, net):
        self.assertEqual(told, net_made(list(net[0]), list(told[1])))
        self.assertEqual([type(part) for part in (told, *told)], [tuple] * 3)
        self.assertFalse(comes_round(*told) if len(net[0]) < 7 else False)
        self.assertEqual(told[0], net[0])
        self.assertEqual(slow_ties(told), slow_ties(net))
        self.assertEqual(slow_corners(told), slow_corners(net))

    def test_a_net_within(self):
        for net in itertools.chain(some_nets(), larger_nets(), [all_tied(NAMES)]):
            self.is_net_like(net_within(picture_of(net)), net)

    def test_a_net_with_each_tie_either_way_round(self):
        for net in itertools.chain(some_nets(), larger_nets(), [all_tied(NAMES)]):
            picture = picture_of(net)
            for one, other in picture[2]:
                for tail, head in ((one, other), (other, one)):
                    told = net_with(picture, tail, head)
                    self.is_net_like(told, net)
                    self.assertIn((tail, head), told[1])

    def test_within_and_with_part_the_same_names(self):
        for nets in nets_alike(3) + nets_alike(4)[::3]:
            picture = slow_picture(nets)
            self.assertIn(net_within(picture), nets)
            for one, other in picture[2]:
                self.assertIn(net_with(picture, one, other), nets)
                self.assertIn(net_with(picture, other, one), nets)

    def test_the_arrows_of_the_picture_stand_in_them(self):
        for net in larger_nets():
            picture = picture_of(net)
            self.assertLessEqual(set(picture[1]), set(net_within(picture)[1]))
            for one, other in picture[2]:
                self.assertLessEqual(set(picture[1]), set(net_with(picture, one, other)[1]))

    def test_the_picture_handed_in_stays(self):
        net = net_made(["b", "a", "c"], [("a", "b"), ("b", "c")])
        picture = picture_of(net)
        net_within(picture)
        net_with(picture, "b", "a")
        self.assertEqual(picture, (("b", "a", "c"), (), (("b", "a"), ("b", "c"))))

    def test_no_tie_where_an_arrow_of_the_picture_stands(self):
        picture = picture_of(net_made(["a", "b", "c", "d"], [("a", "c"), ("b", "c"), ("c", "d")]))
        for tail, head in picture[1]:
            self.refused(NoTie, net_with, picture, tail, head)
            self.refused(NoTie, net_with, picture, head, tail)

    def test_no_tie_where_two_are_not_tied(self):
        picture = picture_of(net_made(["a", "b", "c", "d"], [("a", "b"), ("b", "c")]))
        for tail, head in (("a", "c"), ("c", "a"), ("a", "d"), ("d", "b")):
            self.refused(NoTie, net_with, picture, tail, head)

    def test_no_tie_of_a_name_and_itself(self):
        for net in (net_made(["a"], []), net_made(["a", "b"], [("a", "b")])):
            for name in net[0]:
                self.refused(NoTie, net_with, picture_of(net), name, name)

    def test_every_two_names_are_told_or_refused(self):
        for net in itertools.chain(some_nets(), shaped_nets()):
            picture = picture_of(net)
            for pair in itertools.product(net[0], repeat=2):
                if pair in picture[2] or pair[::-1] in picture[2]:
                    self.assertIn(pair, net_with(picture, *pair)[1])
                else:
                    self.refused(NoTie, net_with, picture, *pair)

    def test_strange_names_go_ahead(self):
        picture = picture_of(net_made(["a", "b", "c"], [("a", "b")]))
        for pair in (("x", "a"), ("a", "x"), ("x", "x"), ("x", "y"), ("c", "x"), ("A", "b"), ("", "b")):
            self.refused(NoName, net_with, picture, *pair)


class ReasonsTest(Case):
    def are_reasons(self, net):
        rows = reasons_of(net)
        self.assertIs(type(rows), list)
        for row in rows:
            self.assertEqual([type(part) for part in (row, *row)], [tuple, str, str, str, tuple])
        arrows = [row[:2] for row in rows]
        self.assertEqual(by_places(net[0], arrows), picture_of(net)[1])
        self.assertEqual(rows_that_fail(slow_ties(net), slow_corners(net), rows), [])
        return rows

    def rules_told(self, net, arrow):
        return [row[2:] for row in self.are_reasons(net) if row[:2] == arrow]

    def test_each_arrow_of_the_picture_by_the_rows_ahead(self):
        rules = set()
        for net in itertools.chain(some_nets(), larger_nets()):
            rules |= {row[2] for row in self.are_reasons(net)}
        self.assertEqual(rules, {"corner", "on", "over", "both"})

    def test_all_small_arrows_that_stand_in_every_net(self):
        for nets in nets_alike(3) + nets_alike(4):
            arrows = slow_picture(nets)[1]
            for net in nets:
                self.assertEqual(by_places(net[0], [row[:2] for row in reasons_of(net)]), arrows)

    def test_corner_is_needed(self):
        net = net_made(["a", "b", "c"], [("a", "c"), ("b", "c")])
        self.assertEqual(self.rules_told(net, ("a", "c")), [("corner", ("b",))])
        self.assertEqual(self.rules_told(net, ("b", "c")), [("corner", ("a",))])

    def test_one_row_for_an_arrow_of_several_corners(self):
        net = net_made(["d", "c", "b", "a"], [("a", "d"), ("b", "d"), ("c", "d")])
        self.assertEqual(len(self.are_reasons(net)), 3)

    def test_on_is_needed(self):
        net = net_made(["d", "a", "b", "c"], [("a", "c"), ("b", "c"), ("c", "d")])
        self.assertIn(self.rules_told(net, ("c", "d")), ([("on", ("a",))], [("on", ("b",))]))

    def test_on_and_on_again(self):
        net = net_made(["e", "d", "c", "b", "a"], [("a", "c"), ("b", "c"), ("c", "d"), ("d", "e")])
        self.assertEqual(self.rules_told(net, ("d", "e")), [("on", ("c",))])

    def test_over_is_needed(self):
        net = net_made(["head", "tail", "over", "by"], [
            ("tail", "over"), ("by", "over"), ("over", "head"), ("tail", "head"),
        ])
        self.assertEqual(self.rules_told(net, ("tail", "head")), [("over", ("over",))])

    def test_both_is_needed(self):
        net = net_made(["head", "c", "tail", "d"], [
            ("c", "head"), ("d", "head"), ("tail", "head"), ("tail", "c"), ("tail", "d"),
        ])
        self.assertIn(
            self.rules_told(net, ("tail", "head")), ([("both", ("c", "d"))], [("both", ("d", "c"))]),
        )

    def test_none_where_every_tie_goes_either_way(self):
        for net in (net_made(["a"], []), net_made(["a", "b", "c"], [("a", "b"), ("b", "c")]), all_tied(NAMES)):
            self.assertEqual(reasons_of(net), [])

    def test_told_list_emptied(self):
        net = net_made(["a", "b", "c"], [("a", "c"), ("b", "c")])
        told = reasons_of(net)
        kept = list(told)
        told.clear()
        self.assertEqual(reasons_of(net), kept)
        self.assertEqual(picture_of(net)[1], net[1])


class MomentTest(Case):
    def test_eight_names(self):
        nets = list(thrown_nets(sizes=(8,), each=10)) + [all_tied(NAMES)]
        for net in nets:
            picture = picture_of(net)
            self.assertLess(steps_of(picture_of, net), 60000)
            self.assertLess(steps_of(net_within, picture), 60000)
            for one, other in picture[2][:1]:
                self.assertLess(steps_of(net_with, picture, one, other), 60000)


if __name__ == "__main__":
    unittest.main()
